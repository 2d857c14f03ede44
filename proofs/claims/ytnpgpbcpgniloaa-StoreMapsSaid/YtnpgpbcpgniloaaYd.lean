/-
  Layer 6, the walks of a map of ints: the tree in memory, Get, With, Without, Each.
  Layer 6, numbers: the page's lists of pairs: without a number, with one, sorted; the tree that holds the same.
  Layer 6, the walks: the page's Get, Without, With over lists of pairs.
  Layer 6, the walks: the page's Sorted.
-/
import Derived.Test.YtnpgpbcpgniloaaBx
import Derived.Test.YtnpgpbcpgniloaaSa
import Derived.Test.YtnpgpbcpgniloaaSl
import Derived.Test.YtnpgpbcpgniloaaSv
import Derived.Deep.LoopGhost
import Derived.Handy
import Derived.Laws.BitsAllLaws
import Derived.Deep.RegionLaw
import Derived.Deep.AppendLies
set_option linter.unusedSimpArgs false
set_option linter.unusedVariables false
namespace Go.Proofs.Ytnpgpbcpgniloaa.MI
open Go.RowKit GrS

abbrev leafCells (k : Nat) (v : Int) : List Value := [.int .u64 (k : Int), .int .i64 v, .int .i64 0, .pointer none, .pointer none]
abbrev nodeCells (k b : Nat) (l r : Nat) : List Value := [.int .u64 (k : Int), .int .i64 0, .int .i64 (b : Int), .pointer (some ⟨l, 0, none⟩), .pointer (some ⟨r, 0, none⟩)]
/-- the tree t at block B, all of whose blocks are in S -/
def TrS (V : World) (S : Nat → Prop) : Nat → Tr → Prop
  | B, .leaf k v => S B ∧ Row V B (leafCells k v) 110
  | B, .node k b l r => S B ∧ ∃ x y, Row V B (nodeCells k b x y) 110 ∧ TrS V S x l ∧ TrS V S y r
abbrev TrAt (V : World) (B : Nat) (t : Tr) : Prop := TrS V (fun _ => True) B t
def PAt (V : World) (p : Option Addr) (t : Option Tr) : Prop := match t with
  | none => p = none
  | some t => ∃ B, p = some ⟨B, 0, none⟩ ∧ TrAt V B t
theorem TrS.below {V U : World} {S : Nat → Prop} (k : Below V.heap.size V U) : ∀ (t : Tr) (B : Nat), TrS V S B t → TrS U S B t
  | .leaf _ _, _, h => ⟨h.1, Row.below h.2 k⟩
  | .node _ _ l r, _, ⟨s, x, y, h, hl, hr⟩ => ⟨s, x, y, h.below k, TrS.below k l x hl, TrS.below k r y hr⟩
theorem TrS.upto {V U : World} {S : Nat → Prop} {m : Nat} (k : Below m V U) (hS : ∀ C, S C → C < m) : ∀ (t : Tr) (B : Nat), TrS V S B t → TrS U S B t
  | .leaf _ _, _, h => ⟨h.1, Row.upto h.2 k (hS _ h.1)⟩
  | .node _ _ l r, _, ⟨s, x, y, h, hl, hr⟩ => ⟨s, x, y, h.upto k (hS _ s), TrS.upto k hS l x hl, TrS.upto k hS r y hr⟩
theorem TrS.mono {V : World} {S S' : Nat → Prop} (hS : ∀ C, S C → S' C) : ∀ (t : Tr) (B : Nat), TrS V S B t → TrS V S' B t
  | .leaf _ _, _, h => ⟨hS _ h.1, h.2⟩
  | .node _ _ l r, _, ⟨s, x, y, h, hl, hr⟩ => ⟨hS _ s, x, y, h, TrS.mono hS l x hl, TrS.mono hS r y hr⟩
theorem TrS.lt {V : World} {S : Nat → Prop} : ∀ (t : Tr) (B : Nat), TrS V S B t → TrS V (fun C => S C ∧ C < V.heap.size) B t
  | .leaf _ _, _, h => ⟨⟨h.1, h.2.lt⟩, h.2⟩
  | .node _ _ l r, _, ⟨s, x, y, h, hl, hr⟩ => ⟨⟨s, h.lt⟩, x, y, h, TrS.lt l x hl, TrS.lt r y hr⟩
theorem TrS.in {V : World} {S : Nat → Prop} : ∀ {t : Tr} {B : Nat}, TrS V S B t → S B
  | .leaf _ _, _, h => h.1
  | .node _ _ _ _, _, h => h.1
theorem TrS.set {V : World} {S : Nat → Prop} {P : Nat} (hP : ¬ S P) (i : Nat) (v : Value) : ∀ (t : Tr) (B : Nat), TrS V S B t → TrS (V.setCell ⟨P, i, none⟩ v) S B t
  | .leaf _ _, _, h => ⟨h.1, h.2.oth (C := P) (fun e => hP (by rw [← e]; exact h.1)) i v⟩
  | .node _ _ l r, _, ⟨s, x, y, h, hl, hr⟩ => ⟨s, x, y, h.oth (C := P) (fun e => hP (by rw [← e]; exact s)) i v, TrS.set hP i v l x hl, TrS.set hP i v r y hr⟩
theorem PAt.below {V U : World} {p : Option Addr} {t : Option Tr} (h : PAt V p t) (k : Below V.heap.size V U) : PAt U p t := by
  cases t with
  | none => exact h
  | some t => obtain ⟨B, e, h⟩ := h; exact ⟨B, e, TrS.below k t B h⟩
def size : Tr → Nat
  | .leaf _ _ => 1
  | .node _ _ l r => size l + size r + 1
/-- a map as it lies in memory -/
structure MAt (V : World) (p : Option Addr) (n : Int) (t : Option Tr) : Prop where
  at' : PAt V p t
  n : n = (toLO t).length
  wf : WFO t
theorem MAt.below {V U : World} {p : Option Addr} {n : Int} {t : Option Tr} (h : MAt V p n t) (k : Below V.heap.size V U) : MAt U p n t := ⟨h.at'.below k, h.n, h.wf⟩
theorem and_one (x : Int) (h0 : 0 ≤ x) (h1 : x < 18446744073709551616) : bits .and .u64 x 1 = x % 2 := by go_bits2
theorem bit_and (b K : Nat) (h : K < 18446744073709551616) : (bits .and .u64 ((K : Int) / 2 ^ b) 1 == 0) = decide (bit b K = 0) := by
  have e : ((K : Int) / 2 ^ b) = ((K / 2 ^ b : Nat) : Int) := by simp
  have lt : K / 2 ^ b ≤ K := Nat.div_le_self _ _
  rw [e]
  unfold bit
  obtain ⟨q, hq⟩ : ∃ q, q = K / 2 ^ b := ⟨_, rfl⟩
  rw [← hq] at lt ⊢
  rw [and_one _ (by omega) (by omega)]
  by_cases c : q % 2 = 0
  · rw [decide_eq_true c, beq_iff_eq]; omega
  · rw [decide_eq_false c, beq_eq_false_iff_ne]; omega
def getV (o : Option Int) : Value := match o with | none => .tuple #[.int .i64 0, .bool false] | some v => .tuple #[.int .i64 v, .bool true]
end Go.Proofs.Ytnpgpbcpgniloaa.MI

namespace Go.Proofs.Ytnpgpbcpgniloaa.MI
open Go.RowKit GrS

set_option maxRecDepth 100000 in
set_option maxHeartbeats 1600000 in
theorem mget_some (B : Nat) (n : Int) (t : Tr) (K : Nat) (w : World) (h : TrAt w B t) (hw : t.WF) (hK : K < 18446744073709551616) :
    Calls Try.prog 33 #[.agg #[.pointer (some ⟨B, 0, none⟩), .int .i64 n], .int .u64 (K : Int)] w fun e w' => e = .returned (getV (t.look K)) ∧ Below w.heap.size w w' := by
  have H := Lib.hid h
  have HW := Lib.hid hw
  clear h hw
  go_enter Try.func33, Try.ntmps33
  go_upto_region 1 with fail
  refine to_cls ?_
  intro U hU z
  have r_m : ∀ z : Wb U, Row z.at w.heap.size [.pointer (some ⟨B, 0, none⟩), .int .i64 n] 69 := Row.next (Row.new _ [.pointer (some ⟨B, 0, none⟩), .int .i64 n] _) hU
  have KK := Lib.hid (KB.next (KB.alloc (Below.refl _ _) _) hU)
  have m0 : ∀ z : Wb U, z.at.cell? ⟨w.heap.size, 0, none⟩ = some (.pointer (some ⟨B, 0, none⟩)) := fun z => (r_m z).cell 0
  go_wp2_with fail
  go_loopg [6] (size t) (fun g p wr => ∃ (b : Nat) (s : Tr), p = .pointer (some ⟨b, 0, none⟩) ∧ TrAt wr b s ∧ s.WF ∧ s.look K = t.look K ∧ g = size s ∧ Below z.at.heap.size z.at wr)
  case atStart => exact ⟨B, t, rfl, TrS.below (KK.out z) t B H.out, HW.out, rfl, rfl, Below.refl _ _⟩
  case round =>
    obtain ⟨b, s, rfl, hs, hsw, hl, hg, hb⟩ := hrel
    have HB := Lib.hid hb
    have HL := Lib.hid hl
    have HG := Lib.hid hg
    clear hb hl hg
    cases s with
    | leaf k v =>
      have e0 : wr.cell? ⟨b, 0, none⟩ = some (.int .u64 (k : Int)) := Row.cell hs.2 0
      have e1 : wr.cell? ⟨b, 1, none⟩ = some (.int .i64 v) := Row.cell hs.2 1
      have e3 : wr.cell? ⟨b, 3, none⟩ = some (.pointer none) := Row.cell hs.2 3
      by_cases c : k = K
      · subst c
        have R := Lib.hid (show t.look k = some v by rw [← HL.out]; simp [Tr.look])
        go_wp2
        refine bodyPost_ret (v := .tuple #[.int .i64 v, .bool true]) (by simp [results, Try.results33, go_sem, *]) rfl ⟨by rw [R.out]; rfl, (KK.out z).trans (HB.out.mono (KK.out z).size)⟩
      · have R := Lib.hid (show t.look K = none by rw [← HL.out]; simp [Tr.look, c])
        have ck : (((k : Nat) : Int) == (K : Int)) = false := by simp; omega
        go_wp2
        refine bodyPost_ret (v := .tuple #[.int .i64 0, .bool false]) (by simp [results, Try.results33, go_sem, *]) rfl ⟨by rw [R.out]; rfl, (KK.out z).trans (HB.out.mono (KK.out z).size)⟩
    | node k bt l r =>
      obtain ⟨_, x, y, hr, hl, hrr⟩ := hs
      have e0 : wr.cell? ⟨b, 0, none⟩ = some (.int .u64 (k : Int)) := hr.cell 0
      have e2 : wr.cell? ⟨b, 2, none⟩ = some (.int .i64 (bt : Int)) := hr.cell 2
      have e3 : wr.cell? ⟨b, 3, none⟩ = some (.pointer (some ⟨x, 0, none⟩)) := hr.cell 3
      have e4 : wr.cell? ⟨b, 4, none⟩ = some (.pointer (some ⟨y, 0, none⟩)) := hr.cell 4
      have b0 : (0 : Int) ≤ (bt : Int) := by omega
      have b1 : (bt : Int) < 64 := by have := hsw.1; omega
      have b2 : bt < 64 := hsw.1
      have BA := bit_and bt K hK
      have SL := Lib.hid hl
      have SR := Lib.hid hrr
      have WL := Lib.hid hsw.2.2.2.2.1
      have WR := Lib.hid hsw.2.2.2.2.2
      clear hl hrr hsw
      by_cases c : bit bt K = 0
      · rw [decide_eq_true c] at BA
        have LK := Lib.hid (show l.look K = t.look K by rw [← HL.out]; simp [Tr.look, c])
        clear c
        go_wp2
        go_roundg (size l)
        case measure => rw [HG.out]; simp only [size]; omega
        case rel => exact ⟨x, l, rfl, SL.out, WL.out, LK.out, rfl, HB.out⟩
      · rw [decide_eq_false c] at BA
        have LK := Lib.hid (show r.look K = t.look K by rw [← HL.out]; simp [Tr.look, c])
        clear c
        go_wp2
        go_roundg (size r)
        case measure => rw [HG.out]; simp only [size]; omega
        case rel => exact ⟨y, r, rfl, SR.out, WR.out, LK.out, rfl, HB.out⟩
theorem mget_none (n : Int) (K : Nat) (w : World) :
    Calls Try.prog 33 #[.agg #[.pointer none, .int .i64 n], .int .u64 (K : Int)] w fun e w' => e = .returned (getV none) ∧ Below w.heap.size w w' := by
  go_enter Try.func33, Try.ntmps33
  go_wp2_with fail
  refine wp_loop_rounds 2 ?_
  rw [rounds_succ]
  go_wp2
  refine bodyPost_ret (v := .tuple #[.int .i64 0, .bool false]) (by simp [results, Try.results33, go_sem, *]) rfl ⟨rfl, KB.alloc (Below.refl _ _) _⟩
theorem mget_any (p : Option Addr) (n : Int) (t : Option Tr) (K : Nat) (w : World) (h : MAt w p n t) (hK : K < 18446744073709551616) :
    Calls Try.prog 33 #[.agg #[.pointer p, .int .i64 n], .int .u64 (K : Int)] w fun e w' => e = .returned (getV (lookO t K)) ∧ Below w.heap.size w w' := by
  cases t with
  | none =>
    obtain ⟨rfl, _, _⟩ := h
    exact mget_none n K w
  | some t =>
    obtain ⟨⟨B, rfl, ht⟩, _, hw⟩ := h
    exact mget_some B n t K w ht hw hK
theorem maplen_any (p : Option Addr) (n : Int) (w : World) :
    Calls Try.prog 54 #[.agg #[.pointer p, .int .i64 n]] w fun e w' => e = .returned (.int .i64 n) ∧ Below w.heap.size w w' := by
  go_enter Try.func54, Try.ntmps54
  go_wp2
  go_ret
  exact ⟨rfl, KB.alloc (Below.refl _ _) _⟩
end Go.Proofs.Ytnpgpbcpgniloaa.MI

namespace Go.Proofs.Ytnpgpbcpgniloaa.MI
open Go.RowKit GrS

theorem ret_i {a b : Int} (h : a = b) : Ending.returned (.int .i64 a) = .returned (.int .i64 b) := by rw [h]
theorem wrap_add (s a b : Nat) (hs : s ≤ 56) (ha : a ≤ 8) (hb : b = s + a) : wrap64 ((s : Int) + wrap64 (a : Int)) = (b : Int) := by
  unfold wrap64
  omega
theorem wrap_one (a b : Nat) (ha : a ≤ 8) (hb : b = a) : wrap64 (a : Int) = (b : Int) := by
  unfold wrap64
  omega
theorem wrap_two (a b : Nat) (ha : a ≤ 8) (hb : b = a) : wrap64 (wrap64 (a : Int)) = (b : Int) := by
  unfold wrap64
  omega
theorem dd1 (x a : Nat) : ((x : Int) / (a : Int)).toNat = x / a := by rw [← Int.natCast_ediv, Int.toNat_natCast]
theorem dd2 (x a b : Nat) : ((x : Int) / (a : Int) / (b : Int)).toNat = x / (a * b) := by rw [← Int.natCast_ediv, ← Int.natCast_ediv, Int.toNat_natCast, Nat.div_div_eq_div_mul]
theorem dd3 (x a b c : Nat) : ((x : Int) / (a : Int) / (b : Int) / (c : Int)).toNat = x / (a * b * c) := by rw [← Int.natCast_ediv, ← Int.natCast_ediv, ← Int.natCast_ediv, Int.toNat_natCast, Nat.div_div_eq_div_mul, Nat.div_div_eq_div_mul, Nat.mul_assoc]



end Go.Proofs.Ytnpgpbcpgniloaa.MI

namespace Go.Proofs.Ytnpgpbcpgniloaa.MI
open Go.RowKit GrS

theorem bit_and1 (b K : Nat) (h : K < 18446744073709551616) : (bits .and .u64 ((K : Int) / 2 ^ b) 1 == 1) = decide (bit b K = 1) := by
  have e : ((K : Int) / 2 ^ b) = ((K / 2 ^ b : Nat) : Int) := by simp
  have lt : K / 2 ^ b ≤ K := Nat.div_le_self _ _
  rw [e]
  unfold bit
  obtain ⟨q, hq⟩ : ∃ q, q = K / 2 ^ b := ⟨_, rfl⟩
  rw [← hq] at lt ⊢
  rw [and_one _ (by omega) (by omega)]
  by_cases c : q % 2 = 1
  · rw [decide_eq_true c, beq_iff_eq]; omega
  · rw [decide_eq_false c, beq_eq_false_iff_ne]; omega
theorem xor_nat (a b : Nat) (ha : a < 18446744073709551616) (hb : b < 18446744073709551616) : bits .xor .u64 (a : Int) (b : Int) = ((a ^^^ b : Nat) : Int) := u64_xor_nat a b ha hb
theorem shr_and (X b : Nat) : ((X : Int) / 2 ^ b / 2 == 0) = decide (X / 2 ^ b / 2 = 0) := by
  have e : ((X : Int) / 2 ^ b / 2) = ((X / 2 ^ b / 2 : Nat) : Int) := by simp
  rw [e]
  by_cases c : X / 2 ^ b / 2 = 0
  · rw [decide_eq_true c, c]; rfl
  · rw [decide_eq_false c, beq_eq_false_iff_ne]; exact fun h => c (by exact_mod_cast h)
theorem wrap_len (X m : Nat) (h0 : X ≠ 0) (hm : m = bitLen X - 1) (hX : X < 18446744073709551616) : wrap64 (((bitLen X : Nat) : Int) - 1) = (m : Int) := by
  have h1 : 0 < bitLen X := by unfold bitLen; rw [if_neg h0]; omega
  have h2 := (bitLen_spec X).2 h0
  have h3 : bitLen X - 1 < 64 := (Nat.pow_lt_pow_iff_right (a := 2) (by decide)).1 (Nat.lt_of_le_of_lt h2 (by simpa using hX))
  rw [wrap64_small _ (by omega) (by omega)]
  omega

set_option maxRecDepth 100000 in
set_option maxHeartbeats 6400000 in
theorem with_some (S : Nat → Prop) (t : Tr) : ∀ (B LB k : Nat) (v : Int) (w : World), TrS w S B t → t.WF → S LB → Row w LB (leafCells k v) 110 → k < 18446744073709551616 → (∀ C, w.heap.size ≤ C → S C) →
    Calls Try.prog 55 #[.pointer (some ⟨B, 0, none⟩), .pointer (some ⟨LB, 0, none⟩)] w fun e w' => ∃ B2, e = .returned (.pointer (some ⟨B2, 0, none⟩)) ∧ Below w.heap.size w w' ∧ TrS w' S B2 (t.ins k v) := by
  induction t generalizing S with
  | leaf a u =>
    intro B LB k v w h hw hLB hL hk hnew
    have ha : a < 18446744073709551616 := hw
    have HT := Lib.hid h
    have HB := Lib.hid h.2
    have HL := Lib.hid hL
    clear h hL hw
    by_cases hak : a = k
    · have hka := hak.symm
      subst hka
      have ca : (((k : Nat) : Int) == (k : Int)) = true := by simp
      have rB : ∀ z : Wb w, Row z.at B (leafCells k u) 110 := Row.at HB.out
      have rL : ∀ z : Wb w, Row z.at LB (leafCells k v) 110 := Row.at HL.out
      have cB_0 : ∀ z : Wb w, z.at.cell? ⟨B, 0, none⟩ = some (.int .u64 (k : Int)) := fun z => (rB z).cell 0
      have cB_3 : ∀ z : Wb w, z.at.cell? ⟨B, 3, none⟩ = some (.pointer none) := fun z => (rB z).cell 3
      have fB : ∀ (z : Wb w) (i : Nat), z.at.frozen? ⟨B, i, none⟩ = false := fun z i => (rB z).free i
      have cL_0 : ∀ z : Wb w, z.at.cell? ⟨LB, 0, none⟩ = some (.int .u64 (k : Int)) := fun z => (rL z).cell 0
      have fL : ∀ (z : Wb w) (i : Nat), z.at.frozen? ⟨LB, i, none⟩ = false := fun z i => (rL z).free i
      go_enter Try.func55, Try.ntmps55
      go_wp2_with fail
      refine wp_region_wb (by kernel_rfl) (by kernel_rfl) ?_
      repeat (go_big_quiet_step (fail))
      refine wpQuiet_nil ?_
      rintro _ ⟨z1, rfl⟩
      go_wp2
      go_ret
      exact ⟨LB, rfl, z1.bel, by simp only [Tr.ins, if_true]; exact TrS.below z1.bel (.leaf k v) LB ⟨hLB, HL.out⟩⟩
    · have hne : a ≠ k := hak
      have ca : (((a : Nat) : Int) == (k : Int)) = false := by simp; omega
      obtain ⟨X, hX⟩ : ∃ X, X = a ^^^ k := ⟨_, rfl⟩
      have XOR : bits .xor .u64 (a : Int) (k : Int) = (X : Int) := by rw [hX]; exact xor_nat a k ha hk
      have XL := Lib.hid (show X < 18446744073709551616 by rw [hX]; exact Nat.xor_lt_two_pow (n := 64) (by simpa using ha) (by simpa using hk))
      obtain ⟨m, hm⟩ : ∃ m, m = bitLen X - 1 := ⟨_, rfl⟩
      have M64 := Lib.hid (show m < 64 by rw [hm, hX]; exact part_lt ha hk hne)
      have MM := Lib.hid (show m = bitLen ((.leaf a u : Tr).key ^^^ k) - 1 by rw [hm, hX]; rfl)
      have WM := Lib.hid (show wrap64 (((bitLen X : Nat) : Int) - 1) = (m : Int) from wrap_len X m (by rw [hX]; exact fun h => hne ((xor_zero _ _).1 h)) hm XL.out)
      have EJ := Lib.hid (show (.leaf a u : Tr).ins k v = join (.leaf a u) k v by simp only [Tr.ins]; rw [if_neg hak])
      clear hak hX hm hne
      have rB : ∀ z : Wb w, Row z.at B (leafCells a u) 110 := Row.at HB.out
      have rL : ∀ z : Wb w, Row z.at LB (leafCells k v) 110 := Row.at HL.out
      have cB_0 : ∀ z : Wb w, z.at.cell? ⟨B, 0, none⟩ = some (.int .u64 (a : Int)) := fun z => (rB z).cell 0
      have cB_3 : ∀ z : Wb w, z.at.cell? ⟨B, 3, none⟩ = some (.pointer none) := fun z => (rB z).cell 3
      have fB : ∀ (z : Wb w) (i : Nat), z.at.frozen? ⟨B, i, none⟩ = false := fun z i => (rB z).free i
      have cL_0 : ∀ z : Wb w, z.at.cell? ⟨LB, 0, none⟩ = some (.int .u64 (k : Int)) := fun z => (rL z).cell 0
      have fL : ∀ (z : Wb w) (i : Nat), z.at.frozen? ⟨LB, i, none⟩ = false := fun z i => (rL z).free i
      go_enter Try.func55, Try.ntmps55
      go_wp2_with fail
      refine wp_region_wb (by kernel_rfl) (by kernel_rfl) ?_
      repeat (go_big_quiet_step (fail))
      refine wpQuiet_nil ?_
      rintro _ ⟨z1, rfl⟩
      go_upto_region 3 with fail
      refine to_pt ?_
      intro U1 hU1
      have bU1 : Below w.heap.size w U1 := (z1.bel).trans (hU1.mono (z1.bel).size)
      clear cB_0 cB_3 fB cL_0 fL
      have rB : ∀ z : Wb U1, Row z.at B (leafCells a u) 110 := Row.at (HB.out.below bU1)
      have rL : ∀ z : Wb U1, Row z.at LB (leafCells k v) 110 := Row.at (HL.out.below bU1)
      have cB_0 : ∀ z : Wb U1, z.at.cell? ⟨B, 0, none⟩ = some (.int .u64 (a : Int)) := fun z => (rB z).cell 0
      have cB_3 : ∀ z : Wb U1, z.at.cell? ⟨B, 3, none⟩ = some (.pointer none) := fun z => (rB z).cell 3
      have fB : ∀ (z : Wb U1) (i : Nat), z.at.frozen? ⟨B, i, none⟩ = false := fun z i => (rB z).free i
      have cL_0 : ∀ z : Wb U1, z.at.cell? ⟨LB, 0, none⟩ = some (.int .u64 (k : Int)) := fun z => (rL z).cell 0
      have fL : ∀ (z : Wb U1) (i : Nat), z.at.frozen? ⟨LB, i, none⟩ = false := fun z i => (rL z).free i
      refine wp_region_wb (by kernel_rfl) (by kernel_rfl) ?_
      repeat (go_big_quiet_step (fail))
      refine wpQuiet_nil ?_
      rintro _ ⟨z2, rfl⟩
      clear XOR
      go_upto_region 10 with fail
      refine to_pt ?_
      intro U2 hU2
      have bU2 : Below w.heap.size w U2 := (bU1.trans (z2.bel.mono bU1.size)).trans (hU2.mono (bU1.trans (z2.bel.mono bU1.size)).size)
      clear cB_0 cB_3 fB cL_0 fL
      have rB : ∀ z : Wb U2, Row z.at B (leafCells a u) 110 := Row.at (HB.out.below bU2)
      have rL : ∀ z : Wb U2, Row z.at LB (leafCells k v) 110 := Row.at (HL.out.below bU2)
      have cB_0 : ∀ z : Wb U2, z.at.cell? ⟨B, 0, none⟩ = some (.int .u64 (a : Int)) := fun z => (rB z).cell 0
      have cB_3 : ∀ z : Wb U2, z.at.cell? ⟨B, 3, none⟩ = some (.pointer none) := fun z => (rB z).cell 3
      have fB : ∀ (z : Wb U2) (i : Nat), z.at.frozen? ⟨B, i, none⟩ = false := fun z i => (rB z).free i
      have cL_0 : ∀ z : Wb U2, z.at.cell? ⟨LB, 0, none⟩ = some (.int .u64 (k : Int)) := fun z => (rL z).cell 0
      have fL : ∀ (z : Wb U2) (i : Nat), z.at.frozen? ⟨LB, i, none⟩ = false := fun z i => (rL z).free i
      have LEN := Lib.hid (fun (z : Wb U2) => Calls.same_below (len64_any X z.at XL.out) (Below.refl _ _))
      have W1 := WM.out
      refine wp_region_wb_tail 10 (by kernel_rfl) (by kernel_rfl) ?_
      simp only [List.take_succ_cons, List.take_zero, List.drop_succ_cons, List.drop_zero]
      repeat (go_big_quiet_step ((go_at_call 72; exact Calls.wb (LEN.out _))))
      refine wpQuiet_nil ?_
      rintro _ ⟨z3, rfl⟩
      clear W1 LEN
      go_upto_region 11 with fail
      refine to_pt ?_
      intro U3 hU3
      have q3 : Below w.heap.size w z3.at := bU2.trans (z3.bel.mono bU2.size)
      have b3 : Below w.heap.size w U3 := (KB.alloc q3 _).trans (hU3.mono (KB.alloc q3 _).size)
      have p3 : Below z3.at.heap.size z3.at U3 := KB.alloc (Below.refl _ _) _ |>.trans (hU3.mono (by simp))
      clear cB_0 cB_3 fB cL_0 fL
      have rL : ∀ z : Wb U3, Row z.at LB (leafCells k v) 110 := Row.at (HL.out.below b3)
      have cL_0 : ∀ z : Wb U3, z.at.cell? ⟨LB, 0, none⟩ = some (.int .u64 (k : Int)) := fun z => (rL z).cell 0
      have fL : ∀ (z : Wb U3) (i : Nat), z.at.frozen? ⟨LB, i, none⟩ = false := fun z i => (rL z).free i
      have rP : ∀ z : Wb U3, Row z.at z3.at.heap.size [.int .u64 (k : Int), .int .i64 0, .int .i64 (m : Int), .pointer (some ⟨LB, 0, none⟩), .pointer (some ⟨B, 0, none⟩)] 110 := Row.next (Row.new _ [.int .u64 (k : Int), .int .i64 0, .int .i64 (m : Int), .pointer (some ⟨LB, 0, none⟩), .pointer (some ⟨B, 0, none⟩)] _) hU3
      obtain ⟨P, hP⟩ : ∃ P, P = z3.at.heap.size := ⟨_, rfl⟩
      rw [← hP] at rP
      simp only [← hP]
      have HP := Lib.hid hP
      clear hP
      have cP_2 : ∀ z : Wb U3, z.at.cell? ⟨P, 2, none⟩ = some (.int .i64 (m : Int)) := fun z => (rP z).cell 2
      have cP_3 : ∀ z : Wb U3, z.at.cell? ⟨P, 3, none⟩ = some (.pointer (some ⟨LB, 0, none⟩)) := fun z => (rP z).cell 3
      have cP_4 : ∀ z : Wb U3, z.at.cell? ⟨P, 4, none⟩ = some (.pointer (some ⟨B, 0, none⟩)) := fun z => (rP z).cell 4
      have fP : ∀ (z : Wb U3) (i : Nat), z.at.frozen? ⟨P, i, none⟩ = false := fun z i => (rP z).free i
      have BA := bit_and m k hk
      have m0 : (0 : Int) ≤ (m : Int) := by omega
      have m1 : (m : Int) < 64 := by have := M64.out; omega
      have m2 : m < 64 := M64.out
      by_cases c : bit m k = 1
      · have BA1 : (bits .and .u64 ((k : Int) / 2 ^ m) 1 == 1) = true := by rw [bit_and1 m k hk, decide_eq_true c]
        clear BA
        refine wp_region_wb (by kernel_rfl) (by kernel_rfl) ?_
        repeat (go_big_quiet_step (fail))
        refine wpQuiet_nil ?_
        rintro _ ⟨z4, rfl⟩
        go_wp2
        go_ret
        have q4 : Below P z3.at ((z4.at.setCell ⟨P, 3, none⟩ (.pointer (some ⟨B, 0, none⟩))).setCell ⟨P, 4, none⟩ (.pointer (some ⟨LB, 0, none⟩))) := by rw [HP.out]; exact KB.put (KB.put (p3.trans (z4.bel.mono p3.size)) (Nat.le_refl _) 3 _) (Nat.le_refl _) 4 _
        refine ⟨P, rfl, q3.trans (q4.mono (by rw [HP.out]; exact q3.size)), ?_⟩
        rw [EJ.out]
        unfold join
        rw [if_pos (by rw [← MM.out]; exact c)]
        rw [← MM.out]
        exact ⟨hnew _ (by rw [HP.out]; exact q3.size), B, LB, ((rP z4).set 3 _).set 4 _, TrS.mono (fun _ h => h.1) _ _ (TrS.upto q4 (fun C h => by rw [HP.out]; exact h.2) _ B (TrS.lt _ B (TrS.below q3 _ B HT.out))), TrS.mono (fun _ h => h.1) _ _ (TrS.upto q4 (fun C h => by rw [HP.out]; exact h.2) (.leaf k v) LB (TrS.lt (.leaf k v) LB (TrS.below (S := S) q3 (.leaf k v) LB ⟨hLB, HL.out⟩)))⟩
      · have BA1 : (bits .and .u64 ((k : Int) / 2 ^ m) 1 == 1) = false := by rw [bit_and1 m k hk, decide_eq_false c]
        clear BA
        refine wp_region_wb (by kernel_rfl) (by kernel_rfl) ?_
        repeat (go_big_quiet_step (fail))
        refine wpQuiet_nil ?_
        rintro _ ⟨z4, rfl⟩
        go_wp2
        go_ret
        have q4 : Below P z3.at z4.at := by rw [HP.out]; exact p3.trans (z4.bel.mono p3.size)
        refine ⟨P, rfl, q3.trans (q4.mono (by rw [HP.out]; exact q3.size)), ?_⟩
        rw [EJ.out]
        unfold join
        rw [if_neg (by rw [← MM.out]; exact c)]
        rw [← MM.out]
        exact ⟨hnew _ (by rw [HP.out]; exact q3.size), LB, B, rP z4, TrS.mono (fun _ h => h.1) _ _ (TrS.upto q4 (fun C h => by rw [HP.out]; exact h.2) (.leaf k v) LB (TrS.lt (.leaf k v) LB (TrS.below (S := S) q3 (.leaf k v) LB ⟨hLB, HL.out⟩))), TrS.mono (fun _ h => h.1) _ _ (TrS.upto q4 (fun C h => by rw [HP.out]; exact h.2) _ B (TrS.lt _ B (TrS.below q3 _ B HT.out)))⟩
  | node a b l r ihl ihr =>
    intro B LB k v w h hw hLB hL hk hnew
    have ha : a < 18446744073709551616 := hw.2.1
    have HT := Lib.hid h
    obtain ⟨sB, x, y, hr, hl, hrr⟩ := h
    have HB := Lib.hid hr
    have HLs := Lib.hid hl
    have HRs := Lib.hid hrr
    have HL := Lib.hid hL
    have WL := Lib.hid hw.2.2.2.2.1
    have WR := Lib.hid hw.2.2.2.2.2
    have nb0 : (0 : Int) ≤ (b : Int) := by omega
    have nb1 : (b : Int) < 64 := by have := hw.1; omega
    have nb2 : b < 64 := hw.1
    clear hr hl hrr hL hw
    by_cases hc : (a ^^^ k) / 2 ^ b / 2 = 0
    · obtain ⟨X, hX⟩ : ∃ X, X = a ^^^ k := ⟨_, rfl⟩
      have XOR : bits .xor .u64 (a : Int) (k : Int) = (X : Int) := by rw [hX]; exact xor_nat a k ha hk
      have SH : ((X : Int) / 2 ^ b / 2 == 0) = true := by rw [shr_and X b, hX, decide_eq_true hc]
      by_cases c : bit b k = 0
      · have BA := bit_and b k hk
        rw [decide_eq_true c] at BA
        have EI := Lib.hid (show (Tr.node a b l r).ins k v = .node a b (l.ins k v) r by simp only [Tr.ins]; rw [if_pos hc, if_pos c])
        clear c hc hX
        clear ihr
        have rB : ∀ z : Wb w, Row z.at B (nodeCells a b x y) 110 := Row.at HB.out
        have rL : ∀ z : Wb w, Row z.at LB (leafCells k v) 110 := Row.at HL.out
        have cB_0 : ∀ z : Wb w, z.at.cell? ⟨B, 0, none⟩ = some (.int .u64 (a : Int)) := fun z => (rB z).cell 0
        have cB_2 : ∀ z : Wb w, z.at.cell? ⟨B, 2, none⟩ = some (.int .i64 (b : Int)) := fun z => (rB z).cell 2
        have cB_3 : ∀ z : Wb w, z.at.cell? ⟨B, 3, none⟩ = some (.pointer (some ⟨x, 0, none⟩)) := fun z => (rB z).cell 3
        have cB_4 : ∀ z : Wb w, z.at.cell? ⟨B, 4, none⟩ = some (.pointer (some ⟨y, 0, none⟩)) := fun z => (rB z).cell 4
        have cB_1 : ∀ z : Wb w, z.at.cell? ⟨B, 1, none⟩ = some (.int .i64 0) := fun z => (rB z).cell 1
        have fB : ∀ (z : Wb w) (i : Nat), z.at.frozen? ⟨B, i, none⟩ = false := fun z i => (rB z).free i
        have cL_0 : ∀ z : Wb w, z.at.cell? ⟨LB, 0, none⟩ = some (.int .u64 (k : Int)) := fun z => (rL z).cell 0
        have fL : ∀ (z : Wb w) (i : Nat), z.at.frozen? ⟨LB, i, none⟩ = false := fun z i => (rL z).free i
        go_enter Try.func55, Try.ntmps55
        go_wp2_with fail
        refine wp_region_wb (by kernel_rfl) (by kernel_rfl) ?_
        repeat (go_big_quiet_step (fail))
        refine wpQuiet_nil ?_
        rintro _ ⟨z1, rfl⟩
        go_upto_region 3 with fail
        refine to_pt ?_
        intro U1 hU1
        have bU1 : Below w.heap.size w U1 := (z1.bel).trans (hU1.mono (z1.bel).size)
        clear cB_0 cB_2 cB_3 cB_4 cB_1 fB cL_0 fL
        have rB : ∀ z : Wb U1, Row z.at B (nodeCells a b x y) 110 := Row.at (HB.out.below bU1)
        have rL : ∀ z : Wb U1, Row z.at LB (leafCells k v) 110 := Row.at (HL.out.below bU1)
        have cB_0 : ∀ z : Wb U1, z.at.cell? ⟨B, 0, none⟩ = some (.int .u64 (a : Int)) := fun z => (rB z).cell 0
        have cB_2 : ∀ z : Wb U1, z.at.cell? ⟨B, 2, none⟩ = some (.int .i64 (b : Int)) := fun z => (rB z).cell 2
        have cB_3 : ∀ z : Wb U1, z.at.cell? ⟨B, 3, none⟩ = some (.pointer (some ⟨x, 0, none⟩)) := fun z => (rB z).cell 3
        have cB_4 : ∀ z : Wb U1, z.at.cell? ⟨B, 4, none⟩ = some (.pointer (some ⟨y, 0, none⟩)) := fun z => (rB z).cell 4
        have cB_1 : ∀ z : Wb U1, z.at.cell? ⟨B, 1, none⟩ = some (.int .i64 0) := fun z => (rB z).cell 1
        have fB : ∀ (z : Wb U1) (i : Nat), z.at.frozen? ⟨B, i, none⟩ = false := fun z i => (rB z).free i
        have cL_0 : ∀ z : Wb U1, z.at.cell? ⟨LB, 0, none⟩ = some (.int .u64 (k : Int)) := fun z => (rL z).cell 0
        have fL : ∀ (z : Wb U1) (i : Nat), z.at.frozen? ⟨LB, i, none⟩ = false := fun z i => (rL z).free i
        refine wp_region_wb (by kernel_rfl) (by kernel_rfl) ?_
        repeat (go_big_quiet_step (fail))
        refine wpQuiet_nil ?_
        rintro _ ⟨z2, rfl⟩
        clear XOR
        go_upto_region 6 with fail
        have q2 : Below w.heap.size w z2.at := bU1.trans (z2.bel.mono bU1.size)
        refine to_pt ?_
        intro U2 hU2
        have bU2 : Below w.heap.size w U2 := (KB.alloc q2 _).trans (hU2.mono (KB.alloc q2 _).size)
        have p2 : Below z2.at.heap.size z2.at U2 := KB.alloc (Below.refl _ _) _ |>.trans (hU2.mono (by simp))
        clear cB_0 cB_2 cB_3 cB_4 cB_1 fB cL_0 fL
        clear SH
        have rB : ∀ z : Wb U2, Row z.at B (nodeCells a b x y) 110 := Row.at (HB.out.below bU2)
        have rL : ∀ z : Wb U2, Row z.at LB (leafCells k v) 110 := Row.at (HL.out.below bU2)
        have rP : ∀ z : Wb U2, Row z.at z2.at.heap.size (nodeCells a b x y) 110 := Row.next (Row.new _ (nodeCells a b x y) _) hU2
        obtain ⟨P, hP⟩ : ∃ P, P = z2.at.heap.size := ⟨_, rfl⟩
        rw [← hP] at rP p2
        simp only [← hP]
        have HP := Lib.hid hP
        clear hP
        have cB_0 : ∀ z : Wb U2, z.at.cell? ⟨B, 0, none⟩ = some (.int .u64 (a : Int)) := fun z => (rB z).cell 0
        have cB_2 : ∀ z : Wb U2, z.at.cell? ⟨B, 2, none⟩ = some (.int .i64 (b : Int)) := fun z => (rB z).cell 2
        have cB_3 : ∀ z : Wb U2, z.at.cell? ⟨B, 3, none⟩ = some (.pointer (some ⟨x, 0, none⟩)) := fun z => (rB z).cell 3
        have cB_4 : ∀ z : Wb U2, z.at.cell? ⟨B, 4, none⟩ = some (.pointer (some ⟨y, 0, none⟩)) := fun z => (rB z).cell 4
        have cB_1 : ∀ z : Wb U2, z.at.cell? ⟨B, 1, none⟩ = some (.int .i64 0) := fun z => (rB z).cell 1
        have fB : ∀ (z : Wb U2) (i : Nat), z.at.frozen? ⟨B, i, none⟩ = false := fun z i => (rB z).free i
        have cL_0 : ∀ z : Wb U2, z.at.cell? ⟨LB, 0, none⟩ = some (.int .u64 (k : Int)) := fun z => (rL z).cell 0
        have fL : ∀ (z : Wb U2) (i : Nat), z.at.frozen? ⟨LB, i, none⟩ = false := fun z i => (rL z).free i
        have cP_0 : ∀ z : Wb U2, z.at.cell? ⟨P, 0, none⟩ = some (.int .u64 (a : Int)) := fun z => (rP z).cell 0
        have cP_2 : ∀ z : Wb U2, z.at.cell? ⟨P, 2, none⟩ = some (.int .i64 (b : Int)) := fun z => (rP z).cell 2
        have cP_3 : ∀ z : Wb U2, z.at.cell? ⟨P, 3, none⟩ = some (.pointer (some ⟨x, 0, none⟩)) := fun z => (rP z).cell 3
        have cP_4 : ∀ z : Wb U2, z.at.cell? ⟨P, 4, none⟩ = some (.pointer (some ⟨y, 0, none⟩)) := fun z => (rP z).cell 4
        have cP_1 : ∀ z : Wb U2, z.at.cell? ⟨P, 1, none⟩ = some (.int .i64 0) := fun z => (rP z).cell 1
        have fP : ∀ (z : Wb U2) (i : Nat), z.at.frozen? ⟨P, i, none⟩ = false := fun z i => (rP z).free i
        refine wp_region_wb (by kernel_rfl) (by kernel_rfl) ?_
        repeat (go_big_quiet_step (fail))
        refine wpQuiet_nil ?_
        rintro _ ⟨z3, rfl⟩
        have q3 : Below w.heap.size w z3.at := bU2.trans (z3.bel.mono bU2.size)
        have p3 : Below P z2.at z3.at := p2.trans (z3.bel.mono (by have := p2.size; rw [HP.out]; exact this))
        have wP : w.heap.size ≤ P := by rw [HP.out]; exact q2.size
        have lbP : LB < P := Nat.lt_of_lt_of_le HL.out.lt wP
        have IH := Lib.hid (ihl (fun C => S C ∧ C ≠ P) x LB k v z3.at (TrS.mono (fun C h => ⟨h.1, by have := h.2; rw [← HP.out] at this; omega⟩) _ _ (TrS.upto p3 (fun C h => by rw [HP.out]; exact h.2) _ x (TrS.lt _ x (TrS.below q2 _ x HLs.out)))) WL.out ⟨hLB, by omega⟩ (HL.out.below q3) hk (fun C hC => ⟨hnew C (Nat.le_trans q3.size hC), by have := (rP z3).lt; omega⟩))
        clear ihl
        go_wp2_with fail
        refine IH.out.mono ?_
        rintro e w4 ⟨B2, rfl, b4, t4⟩
        have T4 := Lib.hid t4
        clear t4 IH
        obtain ⟨z4, rfl⟩ := Wb.next (x := z3) b4
        have B4 := Lib.hid b4
        clear b4
        go_wp2
        go_ret
        have q4 : Below w.heap.size w z4.at := bU2.trans (z4.bel.mono bU2.size)
        have p4 : Below P z2.at z4.at := p2.trans (z4.bel.mono (by have := p2.size; rw [HP.out]; exact this))
        refine ⟨P, rfl, KB.put q4 wP 3 _, ?_⟩
        rw [EI.out]
        have TO := TrS.mono (fun C (h : S C ∧ C < z2.at.heap.size) => (⟨h.1, by have := h.2; rw [← HP.out] at this; omega⟩ : S C ∧ C ≠ P)) _ _ (TrS.upto p4 (fun C h => by rw [HP.out]; exact h.2) _ y (TrS.lt _ y (TrS.below q2 _ y HRs.out)))
        exact ⟨hnew P wP, B2, y, (rP z4).set 3 _, TrS.mono (fun _ h => h.1) _ _ (TrS.set (fun h => h.2 rfl) 3 _ _ B2 T4.out), TrS.mono (fun _ h => h.1) _ _ (TrS.set (fun h => h.2 rfl) 3 _ _ y TO)⟩
      · have BA := bit_and b k hk
        rw [decide_eq_false c] at BA
        have EI := Lib.hid (show (Tr.node a b l r).ins k v = .node a b l (r.ins k v) by simp only [Tr.ins]; rw [if_pos hc, if_neg c])
        clear c hc hX
        clear ihl
        have rB : ∀ z : Wb w, Row z.at B (nodeCells a b x y) 110 := Row.at HB.out
        have rL : ∀ z : Wb w, Row z.at LB (leafCells k v) 110 := Row.at HL.out
        have cB_0 : ∀ z : Wb w, z.at.cell? ⟨B, 0, none⟩ = some (.int .u64 (a : Int)) := fun z => (rB z).cell 0
        have cB_2 : ∀ z : Wb w, z.at.cell? ⟨B, 2, none⟩ = some (.int .i64 (b : Int)) := fun z => (rB z).cell 2
        have cB_3 : ∀ z : Wb w, z.at.cell? ⟨B, 3, none⟩ = some (.pointer (some ⟨x, 0, none⟩)) := fun z => (rB z).cell 3
        have cB_4 : ∀ z : Wb w, z.at.cell? ⟨B, 4, none⟩ = some (.pointer (some ⟨y, 0, none⟩)) := fun z => (rB z).cell 4
        have cB_1 : ∀ z : Wb w, z.at.cell? ⟨B, 1, none⟩ = some (.int .i64 0) := fun z => (rB z).cell 1
        have fB : ∀ (z : Wb w) (i : Nat), z.at.frozen? ⟨B, i, none⟩ = false := fun z i => (rB z).free i
        have cL_0 : ∀ z : Wb w, z.at.cell? ⟨LB, 0, none⟩ = some (.int .u64 (k : Int)) := fun z => (rL z).cell 0
        have fL : ∀ (z : Wb w) (i : Nat), z.at.frozen? ⟨LB, i, none⟩ = false := fun z i => (rL z).free i
        go_enter Try.func55, Try.ntmps55
        go_wp2_with fail
        refine wp_region_wb (by kernel_rfl) (by kernel_rfl) ?_
        repeat (go_big_quiet_step (fail))
        refine wpQuiet_nil ?_
        rintro _ ⟨z1, rfl⟩
        go_upto_region 3 with fail
        refine to_pt ?_
        intro U1 hU1
        have bU1 : Below w.heap.size w U1 := (z1.bel).trans (hU1.mono (z1.bel).size)
        clear cB_0 cB_2 cB_3 cB_4 cB_1 fB cL_0 fL
        have rB : ∀ z : Wb U1, Row z.at B (nodeCells a b x y) 110 := Row.at (HB.out.below bU1)
        have rL : ∀ z : Wb U1, Row z.at LB (leafCells k v) 110 := Row.at (HL.out.below bU1)
        have cB_0 : ∀ z : Wb U1, z.at.cell? ⟨B, 0, none⟩ = some (.int .u64 (a : Int)) := fun z => (rB z).cell 0
        have cB_2 : ∀ z : Wb U1, z.at.cell? ⟨B, 2, none⟩ = some (.int .i64 (b : Int)) := fun z => (rB z).cell 2
        have cB_3 : ∀ z : Wb U1, z.at.cell? ⟨B, 3, none⟩ = some (.pointer (some ⟨x, 0, none⟩)) := fun z => (rB z).cell 3
        have cB_4 : ∀ z : Wb U1, z.at.cell? ⟨B, 4, none⟩ = some (.pointer (some ⟨y, 0, none⟩)) := fun z => (rB z).cell 4
        have cB_1 : ∀ z : Wb U1, z.at.cell? ⟨B, 1, none⟩ = some (.int .i64 0) := fun z => (rB z).cell 1
        have fB : ∀ (z : Wb U1) (i : Nat), z.at.frozen? ⟨B, i, none⟩ = false := fun z i => (rB z).free i
        have cL_0 : ∀ z : Wb U1, z.at.cell? ⟨LB, 0, none⟩ = some (.int .u64 (k : Int)) := fun z => (rL z).cell 0
        have fL : ∀ (z : Wb U1) (i : Nat), z.at.frozen? ⟨LB, i, none⟩ = false := fun z i => (rL z).free i
        refine wp_region_wb (by kernel_rfl) (by kernel_rfl) ?_
        repeat (go_big_quiet_step (fail))
        refine wpQuiet_nil ?_
        rintro _ ⟨z2, rfl⟩
        clear XOR
        go_upto_region 6 with fail
        have q2 : Below w.heap.size w z2.at := bU1.trans (z2.bel.mono bU1.size)
        refine to_pt ?_
        intro U2 hU2
        have bU2 : Below w.heap.size w U2 := (KB.alloc q2 _).trans (hU2.mono (KB.alloc q2 _).size)
        have p2 : Below z2.at.heap.size z2.at U2 := KB.alloc (Below.refl _ _) _ |>.trans (hU2.mono (by simp))
        clear cB_0 cB_2 cB_3 cB_4 cB_1 fB cL_0 fL
        clear SH
        have rB : ∀ z : Wb U2, Row z.at B (nodeCells a b x y) 110 := Row.at (HB.out.below bU2)
        have rL : ∀ z : Wb U2, Row z.at LB (leafCells k v) 110 := Row.at (HL.out.below bU2)
        have rP : ∀ z : Wb U2, Row z.at z2.at.heap.size (nodeCells a b x y) 110 := Row.next (Row.new _ (nodeCells a b x y) _) hU2
        obtain ⟨P, hP⟩ : ∃ P, P = z2.at.heap.size := ⟨_, rfl⟩
        rw [← hP] at rP p2
        simp only [← hP]
        have HP := Lib.hid hP
        clear hP
        have cB_0 : ∀ z : Wb U2, z.at.cell? ⟨B, 0, none⟩ = some (.int .u64 (a : Int)) := fun z => (rB z).cell 0
        have cB_2 : ∀ z : Wb U2, z.at.cell? ⟨B, 2, none⟩ = some (.int .i64 (b : Int)) := fun z => (rB z).cell 2
        have cB_3 : ∀ z : Wb U2, z.at.cell? ⟨B, 3, none⟩ = some (.pointer (some ⟨x, 0, none⟩)) := fun z => (rB z).cell 3
        have cB_4 : ∀ z : Wb U2, z.at.cell? ⟨B, 4, none⟩ = some (.pointer (some ⟨y, 0, none⟩)) := fun z => (rB z).cell 4
        have cB_1 : ∀ z : Wb U2, z.at.cell? ⟨B, 1, none⟩ = some (.int .i64 0) := fun z => (rB z).cell 1
        have fB : ∀ (z : Wb U2) (i : Nat), z.at.frozen? ⟨B, i, none⟩ = false := fun z i => (rB z).free i
        have cL_0 : ∀ z : Wb U2, z.at.cell? ⟨LB, 0, none⟩ = some (.int .u64 (k : Int)) := fun z => (rL z).cell 0
        have fL : ∀ (z : Wb U2) (i : Nat), z.at.frozen? ⟨LB, i, none⟩ = false := fun z i => (rL z).free i
        have cP_0 : ∀ z : Wb U2, z.at.cell? ⟨P, 0, none⟩ = some (.int .u64 (a : Int)) := fun z => (rP z).cell 0
        have cP_2 : ∀ z : Wb U2, z.at.cell? ⟨P, 2, none⟩ = some (.int .i64 (b : Int)) := fun z => (rP z).cell 2
        have cP_3 : ∀ z : Wb U2, z.at.cell? ⟨P, 3, none⟩ = some (.pointer (some ⟨x, 0, none⟩)) := fun z => (rP z).cell 3
        have cP_4 : ∀ z : Wb U2, z.at.cell? ⟨P, 4, none⟩ = some (.pointer (some ⟨y, 0, none⟩)) := fun z => (rP z).cell 4
        have cP_1 : ∀ z : Wb U2, z.at.cell? ⟨P, 1, none⟩ = some (.int .i64 0) := fun z => (rP z).cell 1
        have fP : ∀ (z : Wb U2) (i : Nat), z.at.frozen? ⟨P, i, none⟩ = false := fun z i => (rP z).free i
        refine wp_region_wb (by kernel_rfl) (by kernel_rfl) ?_
        repeat (go_big_quiet_step (fail))
        refine wpQuiet_nil ?_
        rintro _ ⟨z3, rfl⟩
        have q3 : Below w.heap.size w z3.at := bU2.trans (z3.bel.mono bU2.size)
        have p3 : Below P z2.at z3.at := p2.trans (z3.bel.mono (by have := p2.size; rw [HP.out]; exact this))
        have wP : w.heap.size ≤ P := by rw [HP.out]; exact q2.size
        have lbP : LB < P := Nat.lt_of_lt_of_le HL.out.lt wP
        have IH := Lib.hid (ihr (fun C => S C ∧ C ≠ P) y LB k v z3.at (TrS.mono (fun C h => ⟨h.1, by have := h.2; rw [← HP.out] at this; omega⟩) _ _ (TrS.upto p3 (fun C h => by rw [HP.out]; exact h.2) _ y (TrS.lt _ y (TrS.below q2 _ y HRs.out)))) WR.out ⟨hLB, by omega⟩ (HL.out.below q3) hk (fun C hC => ⟨hnew C (Nat.le_trans q3.size hC), by have := (rP z3).lt; omega⟩))
        clear ihr
        go_wp2_with fail
        refine IH.out.mono ?_
        rintro e w4 ⟨B2, rfl, b4, t4⟩
        have T4 := Lib.hid t4
        clear t4 IH
        obtain ⟨z4, rfl⟩ := Wb.next (x := z3) b4
        have B4 := Lib.hid b4
        clear b4
        go_wp2
        go_ret
        have q4 : Below w.heap.size w z4.at := bU2.trans (z4.bel.mono bU2.size)
        have p4 : Below P z2.at z4.at := p2.trans (z4.bel.mono (by have := p2.size; rw [HP.out]; exact this))
        refine ⟨P, rfl, KB.put q4 wP 4 _, ?_⟩
        rw [EI.out]
        have TO := TrS.mono (fun C (h : S C ∧ C < z2.at.heap.size) => (⟨h.1, by have := h.2; rw [← HP.out] at this; omega⟩ : S C ∧ C ≠ P)) _ _ (TrS.upto p4 (fun C h => by rw [HP.out]; exact h.2) _ x (TrS.lt _ x (TrS.below q2 _ x HLs.out)))
        exact ⟨hnew P wP, x, B2, (rP z4).set 4 _, TrS.mono (fun _ h => h.1) _ _ (TrS.set (fun h => h.2 rfl) 4 _ _ x TO), TrS.mono (fun _ h => h.1) _ _ (TrS.set (fun h => h.2 rfl) 4 _ _ B2 T4.out)⟩
    · have hne : a ≠ k := fun e => hc (by rw [e, Nat.xor_self]; simp)
      obtain ⟨X, hX⟩ : ∃ X, X = a ^^^ k := ⟨_, rfl⟩
      have XOR : bits .xor .u64 (a : Int) (k : Int) = (X : Int) := by rw [hX]; exact xor_nat a k ha hk
      have XL := Lib.hid (show X < 18446744073709551616 by rw [hX]; exact Nat.xor_lt_two_pow (n := 64) (by simpa using ha) (by simpa using hk))
      obtain ⟨m, hm⟩ : ∃ m, m = bitLen X - 1 := ⟨_, rfl⟩
      have M64 := Lib.hid (show m < 64 by rw [hm, hX]; exact part_lt ha hk hne)
      have MM := Lib.hid (show m = bitLen ((.node a b l r : Tr).key ^^^ k) - 1 by rw [hm, hX]; rfl)
      have WM := Lib.hid (show wrap64 (((bitLen X : Nat) : Int) - 1) = (m : Int) from wrap_len X m (by rw [hX]; exact fun h => hne ((xor_zero _ _).1 h)) hm XL.out)
      have EJ := Lib.hid (show (.node a b l r : Tr).ins k v = join (.node a b l r) k v by simp only [Tr.ins]; rw [if_neg hc])
      have SH : ((X : Int) / 2 ^ b / 2 == 0) = false := by rw [shr_and X b, hX, decide_eq_false hc]
      clear hc hX hm hne
      have rB : ∀ z : Wb w, Row z.at B (nodeCells a b x y) 110 := Row.at HB.out
      have rL : ∀ z : Wb w, Row z.at LB (leafCells k v) 110 := Row.at HL.out
      have cB_0 : ∀ z : Wb w, z.at.cell? ⟨B, 0, none⟩ = some (.int .u64 (a : Int)) := fun z => (rB z).cell 0
      have cB_2 : ∀ z : Wb w, z.at.cell? ⟨B, 2, none⟩ = some (.int .i64 (b : Int)) := fun z => (rB z).cell 2
      have cB_3 : ∀ z : Wb w, z.at.cell? ⟨B, 3, none⟩ = some (.pointer (some ⟨x, 0, none⟩)) := fun z => (rB z).cell 3
      have cB_4 : ∀ z : Wb w, z.at.cell? ⟨B, 4, none⟩ = some (.pointer (some ⟨y, 0, none⟩)) := fun z => (rB z).cell 4
      have cB_1 : ∀ z : Wb w, z.at.cell? ⟨B, 1, none⟩ = some (.int .i64 0) := fun z => (rB z).cell 1
      have fB : ∀ (z : Wb w) (i : Nat), z.at.frozen? ⟨B, i, none⟩ = false := fun z i => (rB z).free i
      have cL_0 : ∀ z : Wb w, z.at.cell? ⟨LB, 0, none⟩ = some (.int .u64 (k : Int)) := fun z => (rL z).cell 0
      have fL : ∀ (z : Wb w) (i : Nat), z.at.frozen? ⟨LB, i, none⟩ = false := fun z i => (rL z).free i
      go_enter Try.func55, Try.ntmps55
      go_wp2_with fail
      refine wp_region_wb (by kernel_rfl) (by kernel_rfl) ?_
      repeat (go_big_quiet_step (fail))
      refine wpQuiet_nil ?_
      rintro _ ⟨z1, rfl⟩
      go_upto_region 3 with fail
      refine to_pt ?_
      intro U1 hU1
      have bU1 : Below w.heap.size w U1 := (z1.bel).trans (hU1.mono (z1.bel).size)
      clear cB_0 cB_2 cB_3 cB_4 cB_1 fB cL_0 fL
      have rB : ∀ z : Wb U1, Row z.at B (nodeCells a b x y) 110 := Row.at (HB.out.below bU1)
      have rL : ∀ z : Wb U1, Row z.at LB (leafCells k v) 110 := Row.at (HL.out.below bU1)
      have cB_0 : ∀ z : Wb U1, z.at.cell? ⟨B, 0, none⟩ = some (.int .u64 (a : Int)) := fun z => (rB z).cell 0
      have cB_2 : ∀ z : Wb U1, z.at.cell? ⟨B, 2, none⟩ = some (.int .i64 (b : Int)) := fun z => (rB z).cell 2
      have cB_3 : ∀ z : Wb U1, z.at.cell? ⟨B, 3, none⟩ = some (.pointer (some ⟨x, 0, none⟩)) := fun z => (rB z).cell 3
      have cB_4 : ∀ z : Wb U1, z.at.cell? ⟨B, 4, none⟩ = some (.pointer (some ⟨y, 0, none⟩)) := fun z => (rB z).cell 4
      have cB_1 : ∀ z : Wb U1, z.at.cell? ⟨B, 1, none⟩ = some (.int .i64 0) := fun z => (rB z).cell 1
      have fB : ∀ (z : Wb U1) (i : Nat), z.at.frozen? ⟨B, i, none⟩ = false := fun z i => (rB z).free i
      have cL_0 : ∀ z : Wb U1, z.at.cell? ⟨LB, 0, none⟩ = some (.int .u64 (k : Int)) := fun z => (rL z).cell 0
      have fL : ∀ (z : Wb U1) (i : Nat), z.at.frozen? ⟨LB, i, none⟩ = false := fun z i => (rL z).free i
      refine wp_region_wb (by kernel_rfl) (by kernel_rfl) ?_
      repeat (go_big_quiet_step (fail))
      refine wpQuiet_nil ?_
      rintro _ ⟨z2, rfl⟩
      clear XOR
      go_upto_region 10 with fail
      refine to_pt ?_
      intro U2 hU2
      have bU2 : Below w.heap.size w U2 := (bU1.trans (z2.bel.mono bU1.size)).trans (hU2.mono (bU1.trans (z2.bel.mono bU1.size)).size)
      clear cB_0 cB_2 cB_3 cB_4 cB_1 fB cL_0 fL
      have rB : ∀ z : Wb U2, Row z.at B (nodeCells a b x y) 110 := Row.at (HB.out.below bU2)
      have rL : ∀ z : Wb U2, Row z.at LB (leafCells k v) 110 := Row.at (HL.out.below bU2)
      have cB_0 : ∀ z : Wb U2, z.at.cell? ⟨B, 0, none⟩ = some (.int .u64 (a : Int)) := fun z => (rB z).cell 0
      have cB_2 : ∀ z : Wb U2, z.at.cell? ⟨B, 2, none⟩ = some (.int .i64 (b : Int)) := fun z => (rB z).cell 2
      have cB_3 : ∀ z : Wb U2, z.at.cell? ⟨B, 3, none⟩ = some (.pointer (some ⟨x, 0, none⟩)) := fun z => (rB z).cell 3
      have cB_4 : ∀ z : Wb U2, z.at.cell? ⟨B, 4, none⟩ = some (.pointer (some ⟨y, 0, none⟩)) := fun z => (rB z).cell 4
      have cB_1 : ∀ z : Wb U2, z.at.cell? ⟨B, 1, none⟩ = some (.int .i64 0) := fun z => (rB z).cell 1
      have fB : ∀ (z : Wb U2) (i : Nat), z.at.frozen? ⟨B, i, none⟩ = false := fun z i => (rB z).free i
      have cL_0 : ∀ z : Wb U2, z.at.cell? ⟨LB, 0, none⟩ = some (.int .u64 (k : Int)) := fun z => (rL z).cell 0
      have fL : ∀ (z : Wb U2) (i : Nat), z.at.frozen? ⟨LB, i, none⟩ = false := fun z i => (rL z).free i
      have LEN := Lib.hid (fun (z : Wb U2) => Calls.same_below (len64_any X z.at XL.out) (Below.refl _ _))
      have W1 := WM.out
      refine wp_region_wb_tail 10 (by kernel_rfl) (by kernel_rfl) ?_
      simp only [List.take_succ_cons, List.take_zero, List.drop_succ_cons, List.drop_zero]
      repeat (go_big_quiet_step ((go_at_call 72; exact Calls.wb (LEN.out _))))
      refine wpQuiet_nil ?_
      rintro _ ⟨z3, rfl⟩
      clear W1 LEN SH
      go_upto_region 11 with fail
      refine to_pt ?_
      intro U3 hU3
      have q3 : Below w.heap.size w z3.at := bU2.trans (z3.bel.mono bU2.size)
      have b3 : Below w.heap.size w U3 := (KB.alloc q3 _).trans (hU3.mono (KB.alloc q3 _).size)
      have p3 : Below z3.at.heap.size z3.at U3 := KB.alloc (Below.refl _ _) _ |>.trans (hU3.mono (by simp))
      clear cB_0 cB_2 cB_3 cB_4 cB_1 fB cL_0 fL
      have rL : ∀ z : Wb U3, Row z.at LB (leafCells k v) 110 := Row.at (HL.out.below b3)
      have cL_0 : ∀ z : Wb U3, z.at.cell? ⟨LB, 0, none⟩ = some (.int .u64 (k : Int)) := fun z => (rL z).cell 0
      have fL : ∀ (z : Wb U3) (i : Nat), z.at.frozen? ⟨LB, i, none⟩ = false := fun z i => (rL z).free i
      have rP : ∀ z : Wb U3, Row z.at z3.at.heap.size [.int .u64 (k : Int), .int .i64 0, .int .i64 (m : Int), .pointer (some ⟨LB, 0, none⟩), .pointer (some ⟨B, 0, none⟩)] 110 := Row.next (Row.new _ [.int .u64 (k : Int), .int .i64 0, .int .i64 (m : Int), .pointer (some ⟨LB, 0, none⟩), .pointer (some ⟨B, 0, none⟩)] _) hU3
      obtain ⟨P, hP⟩ : ∃ P, P = z3.at.heap.size := ⟨_, rfl⟩
      rw [← hP] at rP
      simp only [← hP]
      have HP := Lib.hid hP
      clear hP
      have cP_2 : ∀ z : Wb U3, z.at.cell? ⟨P, 2, none⟩ = some (.int .i64 (m : Int)) := fun z => (rP z).cell 2
      have cP_3 : ∀ z : Wb U3, z.at.cell? ⟨P, 3, none⟩ = some (.pointer (some ⟨LB, 0, none⟩)) := fun z => (rP z).cell 3
      have cP_4 : ∀ z : Wb U3, z.at.cell? ⟨P, 4, none⟩ = some (.pointer (some ⟨B, 0, none⟩)) := fun z => (rP z).cell 4
      have fP : ∀ (z : Wb U3) (i : Nat), z.at.frozen? ⟨P, i, none⟩ = false := fun z i => (rP z).free i
      have BA := bit_and m k hk
      have m0 : (0 : Int) ≤ (m : Int) := by omega
      have m1 : (m : Int) < 64 := by have := M64.out; omega
      have m2 : m < 64 := M64.out
      by_cases c : bit m k = 1
      · have BA1 : (bits .and .u64 ((k : Int) / 2 ^ m) 1 == 1) = true := by rw [bit_and1 m k hk, decide_eq_true c]
        clear BA
        refine wp_region_wb (by kernel_rfl) (by kernel_rfl) ?_
        repeat (go_big_quiet_step (fail))
        refine wpQuiet_nil ?_
        rintro _ ⟨z4, rfl⟩
        go_wp2
        go_ret
        have q4 : Below P z3.at ((z4.at.setCell ⟨P, 3, none⟩ (.pointer (some ⟨B, 0, none⟩))).setCell ⟨P, 4, none⟩ (.pointer (some ⟨LB, 0, none⟩))) := by rw [HP.out]; exact KB.put (KB.put (p3.trans (z4.bel.mono p3.size)) (Nat.le_refl _) 3 _) (Nat.le_refl _) 4 _
        refine ⟨P, rfl, q3.trans (q4.mono (by rw [HP.out]; exact q3.size)), ?_⟩
        rw [EJ.out]
        unfold join
        rw [if_pos (by rw [← MM.out]; exact c)]
        rw [← MM.out]
        exact ⟨hnew _ (by rw [HP.out]; exact q3.size), B, LB, ((rP z4).set 3 _).set 4 _, TrS.mono (fun _ h => h.1) _ _ (TrS.upto q4 (fun C h => by rw [HP.out]; exact h.2) _ B (TrS.lt _ B (TrS.below q3 _ B HT.out))), TrS.mono (fun _ h => h.1) _ _ (TrS.upto q4 (fun C h => by rw [HP.out]; exact h.2) (.leaf k v) LB (TrS.lt (.leaf k v) LB (TrS.below (S := S) q3 (.leaf k v) LB ⟨hLB, HL.out⟩)))⟩
      · have BA1 : (bits .and .u64 ((k : Int) / 2 ^ m) 1 == 1) = false := by rw [bit_and1 m k hk, decide_eq_false c]
        clear BA
        refine wp_region_wb (by kernel_rfl) (by kernel_rfl) ?_
        repeat (go_big_quiet_step (fail))
        refine wpQuiet_nil ?_
        rintro _ ⟨z4, rfl⟩
        go_wp2
        go_ret
        have q4 : Below P z3.at z4.at := by rw [HP.out]; exact p3.trans (z4.bel.mono p3.size)
        refine ⟨P, rfl, q3.trans (q4.mono (by rw [HP.out]; exact q3.size)), ?_⟩
        rw [EJ.out]
        unfold join
        rw [if_neg (by rw [← MM.out]; exact c)]
        rw [← MM.out]
        exact ⟨hnew _ (by rw [HP.out]; exact q3.size), LB, B, rP z4, TrS.mono (fun _ h => h.1) _ _ (TrS.upto q4 (fun C h => by rw [HP.out]; exact h.2) (.leaf k v) LB (TrS.lt (.leaf k v) LB (TrS.below (S := S) q3 (.leaf k v) LB ⟨hLB, HL.out⟩))), TrS.mono (fun _ h => h.1) _ _ (TrS.upto q4 (fun C h => by rw [HP.out]; exact h.2) _ B (TrS.lt _ B (TrS.below q3 _ B HT.out)))⟩
end Go.Proofs.Ytnpgpbcpgniloaa.MI

namespace Go.Proofs.Ytnpgpbcpgniloaa.MI
open Go.RowKit GrS

set_option maxRecDepth 100000 in
theorem with_none (LB : Nat) (w : World) :
    Calls Try.prog 55 #[.pointer none, .pointer (some ⟨LB, 0, none⟩)] w fun e w' => e = .returned (.pointer (some ⟨LB, 0, none⟩)) ∧ Below w.heap.size w w' := by
  go_enter Try.func55, Try.ntmps55
  go_wp2_with fail
  refine wp_region_wb (by kernel_rfl) (by kernel_rfl) ?_
  repeat (go_big_quiet_step (fail))
  refine wpQuiet_nil ?_
  rintro _ ⟨z1, rfl⟩
  go_wp2
  go_ret
  exact ⟨rfl, z1.bel⟩

set_option maxRecDepth 100000 in
set_option maxHeartbeats 6400000 in
theorem without_some (t : Tr) : ∀ (B K : Nat) (w : World), TrAt w B t → t.WF → K ∈ t.keys →
    Calls Try.prog 56 #[.pointer (some ⟨B, 0, none⟩), .int .u64 (K : Int)] w fun e w' => ∃ p, e = .returned (.pointer p) ∧ Below w.heap.size w w' ∧ PAt w' p (t.del K) := by
  induction t with
  | leaf a u =>
    intro B K w h hw hm
    have h2 := h.2
    have c3 : w.cell? ⟨B, 3, none⟩ = some (.pointer none) := h2.cell 3
    clear h h2 hm hw
    go_enter Try.func56, Try.ntmps56
    go_wp2
    go_ret
    exact ⟨none, rfl, Below.refl _ _, rfl⟩
  | node a b l r ihl ihr =>
    intro B K w h hw hm
    rw [keys_node, List.mem_append] at hm
    obtain ⟨_, x, y, hr, hl, hrr⟩ := h
    have hK : K < 18446744073709551616 := by rcases hm with h | h; exact keys_lt hw.2.2.2.2.1 K h; exact keys_lt hw.2.2.2.2.2 K h
    have HB := Lib.hid hr
    have HLs := Lib.hid hl
    have HRs := Lib.hid hrr
    have WL := Lib.hid hw.2.2.2.2.1
    have WR := Lib.hid hw.2.2.2.2.2
    have nb0 : (0 : Int) ≤ (b : Int) := by omega
    have nb1 : (b : Int) < 64 := by have := hw.1; omega
    have nb2 : b < 64 := hw.1
    clear hr hl hrr
    by_cases c : bit b K = 0
    · have BA := bit_and b K hK
      rw [decide_eq_true c] at BA
      have KM := Lib.hid (show K ∈ l.keys from by rcases hm with h | h; exact h; exact absurd (hw.2.2.2.1 K h).1 (by omega))
      have ED := Lib.hid (show (Tr.node a b l r).del K = (match l.del K with | none => some r | some l' => some (.node a b l' r)) by simp only [Tr.del]; rw [if_pos c]; rfl)
      clear c hm hw
      have rB : ∀ z : Wb w, Row z.at B (nodeCells a b x y) 110 := Row.at HB.out
      have cB_0 : ∀ z : Wb w, z.at.cell? ⟨B, 0, none⟩ = some (.int .u64 (a : Int)) := fun z => (rB z).cell 0
      have cB_2 : ∀ z : Wb w, z.at.cell? ⟨B, 2, none⟩ = some (.int .i64 (b : Int)) := fun z => (rB z).cell 2
      have cB_3 : ∀ z : Wb w, z.at.cell? ⟨B, 3, none⟩ = some (.pointer (some ⟨x, 0, none⟩)) := fun z => (rB z).cell 3
      have cB_4 : ∀ z : Wb w, z.at.cell? ⟨B, 4, none⟩ = some (.pointer (some ⟨y, 0, none⟩)) := fun z => (rB z).cell 4
      have fB : ∀ (z : Wb w) (i : Nat), z.at.frozen? ⟨B, i, none⟩ = false := fun z i => (rB z).free i
      have d3 : w.cell? ⟨B, 3, none⟩ = some (.pointer (some ⟨x, 0, none⟩)) := HB.out.cell 3
      go_enter Try.func56, Try.ntmps56
      go_wp2_with fail
      refine wp_region_wb (by kernel_rfl) (by kernel_rfl) ?_
      repeat (go_big_quiet_step (fail))
      refine wpQuiet_nil ?_
      rintro _ ⟨z1, rfl⟩
      clear d3
      have TB := Lib.hid (fun z : Wb w => TrS.below z.bel _ x HLs.out)
      go_wp2_with fail
      refine (ihl x K z1.at (TB.out z1) WL.out KM.out).mono ?_
      rintro e w2 ⟨p2, rfl, b2, t2⟩
      have T2 := Lib.hid t2
      clear t2
      obtain ⟨z2, rfl⟩ := Wb.next (x := z1) b2
      clear b2
      cases e : l.del K with
      | none =>
        rw [e] at T2 ED
        obtain rfl : p2 = none := T2.out
        have TO := Lib.hid (TrS.below (S := fun _ => True) z2.bel _ y HRs.out)
        go_wp2
        go_ret
        exact ⟨_, rfl, z2.bel, by rw [ED.out]; exact ⟨y, rfl, TO.out⟩⟩
      | some s2 =>
        rw [e] at T2 ED
        obtain ⟨B2, rfl, t3⟩ := T2.out
        have T3 := Lib.hid t3
        clear t3 T2
        go_upto_region 11 with fail
        refine to_pt ?_
        intro U hU
        have bU : Below w.heap.size w U := z2.bel.trans (hU.mono z2.size)
        clear cB_0 cB_2 cB_3 cB_4 fB
        have rB : ∀ z : Wb U, Row z.at B (nodeCells a b x y) 110 := Row.at (HB.out.below bU)
        have T4 := Lib.hid (TrS.below hU _ B2 T3.out)
        have cB_0 : ∀ z : Wb U, z.at.cell? ⟨B, 0, none⟩ = some (.int .u64 (a : Int)) := fun z => (rB z).cell 0
        have cB_2 : ∀ z : Wb U, z.at.cell? ⟨B, 2, none⟩ = some (.int .i64 (b : Int)) := fun z => (rB z).cell 2
        have fB : ∀ (z : Wb U) (i : Nat), z.at.frozen? ⟨B, i, none⟩ = false := fun z i => (rB z).free i
        refine wp_region_wb_tail 11 (by kernel_rfl) (by kernel_rfl) ?_
        simp only [List.take_succ_cons, List.take_zero, List.drop_succ_cons, List.drop_zero]
        repeat (go_big_quiet_step (fail))
        refine wpQuiet_nil ?_
        rintro _ ⟨z3, rfl⟩
        go_wp2
        go_ret
        have q3 : Below w.heap.size w z3.at := bU.trans (z3.bel.mono bU.size)
        refine ⟨_, rfl, KB.alloc q3 _, ?_⟩
        rw [ED.out]
        exact ⟨_, rfl, trivial, B2, y, Row.new _ (nodeCells a b B2 y) _, TrS.below (KB.alloc z3.bel _) _ B2 T4.out, TrS.below (KB.alloc q3 _) _ y HRs.out⟩
    · have BA := bit_and b K hK
      rw [decide_eq_false c] at BA
      have KM := Lib.hid (show K ∈ r.keys from by rcases hm with h | h; exact absurd (hw.2.2.1 K h).1 c; exact h)
      have ED := Lib.hid (show (Tr.node a b l r).del K = (match r.del K with | none => some l | some r' => some (.node a b l r')) by simp only [Tr.del]; rw [if_neg c]; rfl)
      clear c hm hw
      have rB : ∀ z : Wb w, Row z.at B (nodeCells a b x y) 110 := Row.at HB.out
      have cB_0 : ∀ z : Wb w, z.at.cell? ⟨B, 0, none⟩ = some (.int .u64 (a : Int)) := fun z => (rB z).cell 0
      have cB_2 : ∀ z : Wb w, z.at.cell? ⟨B, 2, none⟩ = some (.int .i64 (b : Int)) := fun z => (rB z).cell 2
      have cB_3 : ∀ z : Wb w, z.at.cell? ⟨B, 3, none⟩ = some (.pointer (some ⟨x, 0, none⟩)) := fun z => (rB z).cell 3
      have cB_4 : ∀ z : Wb w, z.at.cell? ⟨B, 4, none⟩ = some (.pointer (some ⟨y, 0, none⟩)) := fun z => (rB z).cell 4
      have fB : ∀ (z : Wb w) (i : Nat), z.at.frozen? ⟨B, i, none⟩ = false := fun z i => (rB z).free i
      have d3 : w.cell? ⟨B, 3, none⟩ = some (.pointer (some ⟨x, 0, none⟩)) := HB.out.cell 3
      go_enter Try.func56, Try.ntmps56
      go_wp2_with fail
      refine wp_region_wb (by kernel_rfl) (by kernel_rfl) ?_
      repeat (go_big_quiet_step (fail))
      refine wpQuiet_nil ?_
      rintro _ ⟨z1, rfl⟩
      clear d3
      have TB := Lib.hid (fun z : Wb w => TrS.below z.bel _ y HRs.out)
      go_wp2_with fail
      refine (ihr y K z1.at (TB.out z1) WR.out KM.out).mono ?_
      rintro e w2 ⟨p2, rfl, b2, t2⟩
      have T2 := Lib.hid t2
      clear t2
      obtain ⟨z2, rfl⟩ := Wb.next (x := z1) b2
      clear b2
      cases e : r.del K with
      | none =>
        rw [e] at T2 ED
        obtain rfl : p2 = none := T2.out
        have TO := Lib.hid (TrS.below (S := fun _ => True) z2.bel _ x HLs.out)
        go_wp2
        go_ret
        exact ⟨_, rfl, z2.bel, by rw [ED.out]; exact ⟨x, rfl, TO.out⟩⟩
      | some s2 =>
        rw [e] at T2 ED
        obtain ⟨B2, rfl, t3⟩ := T2.out
        have T3 := Lib.hid t3
        clear t3 T2
        go_upto_region 11 with fail
        refine to_pt ?_
        intro U hU
        have bU : Below w.heap.size w U := z2.bel.trans (hU.mono z2.size)
        clear cB_0 cB_2 cB_3 cB_4 fB
        have rB : ∀ z : Wb U, Row z.at B (nodeCells a b x y) 110 := Row.at (HB.out.below bU)
        have T4 := Lib.hid (TrS.below hU _ B2 T3.out)
        have cB_0 : ∀ z : Wb U, z.at.cell? ⟨B, 0, none⟩ = some (.int .u64 (a : Int)) := fun z => (rB z).cell 0
        have cB_2 : ∀ z : Wb U, z.at.cell? ⟨B, 2, none⟩ = some (.int .i64 (b : Int)) := fun z => (rB z).cell 2
        have fB : ∀ (z : Wb U) (i : Nat), z.at.frozen? ⟨B, i, none⟩ = false := fun z i => (rB z).free i
        refine wp_region_wb_tail 11 (by kernel_rfl) (by kernel_rfl) ?_
        simp only [List.take_succ_cons, List.take_zero, List.drop_succ_cons, List.drop_zero]
        repeat (go_big_quiet_step (fail))
        refine wpQuiet_nil ?_
        rintro _ ⟨z3, rfl⟩
        go_wp2
        go_ret
        have q3 : Below w.heap.size w z3.at := bU.trans (z3.bel.mono bU.size)
        refine ⟨_, rfl, KB.alloc q3 _, ?_⟩
        rw [ED.out]
        exact ⟨_, rfl, trivial, x, B2, Row.new _ (nodeCells a b x B2) _, TrS.below (KB.alloc q3 _) _ x HLs.out, TrS.below (KB.alloc z3.bel _) _ B2 T4.out⟩
end Go.Proofs.Ytnpgpbcpgniloaa.MI

namespace GrS
end GrS
namespace Go.Proofs.Ytnpgpbcpgniloaa.MI
open Go.RowKit GrS

def PS (V : World) (S : Nat → Prop) (p : Option Addr) (t : Option Tr) : Prop := match t with
  | none => p = none
  | some t => ∃ B, p = some ⟨B, 0, none⟩ ∧ TrS V S B t
theorem PS.lt {V : World} {p : Option Addr} {t : Option Tr} (h : PAt V p t) : PS V (fun C => C < V.heap.size) p t := by
  cases t with
  | none => exact h
  | some t => obtain ⟨B, e, h⟩ := h; exact ⟨B, e, TrS.mono (fun _ h => h.2) _ _ (TrS.lt _ B h)⟩
theorem PS.mono {V : World} {S S' : Nat → Prop} {p : Option Addr} {t : Option Tr} (hS : ∀ C, S C → S' C) (h : PS V S p t) : PS V S' p t := by
  cases t with
  | none => exact h
  | some t => obtain ⟨B, e, h⟩ := h; exact ⟨B, e, TrS.mono hS _ _ h⟩
theorem PS.below {V U : World} {S : Nat → Prop} {p : Option Addr} {t : Option Tr} (k : Below V.heap.size V U) (h : PS V S p t) : PS U S p t := by
  cases t with
  | none => exact h
  | some t => obtain ⟨B, e, h⟩ := h; exact ⟨B, e, TrS.below k _ _ h⟩
theorem withO (S : Nat → Prop) (t : Option Tr) (p : Option Addr) (LB k : Nat) (v : Int) (w : World) (h : PS w S p t) (hw : WFO t) (hLB : S LB) (hL : Row w LB (leafCells k v) 110) (hk : k < 18446744073709551616) (hnew : ∀ C, w.heap.size ≤ C → S C) :
    Calls Try.prog 55 #[.pointer p, .pointer (some ⟨LB, 0, none⟩)] w fun e w' => ∃ B2, e = .returned (.pointer (some ⟨B2, 0, none⟩)) ∧ Below w.heap.size w w' ∧ TrS w' S B2 (insO t k v) := by
  cases t with
  | none =>
    obtain rfl : p = none := h
    exact (with_none LB w).mono fun e w' ⟨e1, b⟩ => ⟨LB, e1, b, hLB, hL.below b⟩
  | some t =>
    obtain ⟨B, rfl, h⟩ := h
    exact with_some S t B LB k v w h hw hLB hL hk hnew

set_option maxRecDepth 100000 in
set_option maxHeartbeats 3200000 in
theorem With_any (p : Option Addr) (n : Int) (t : Option Tr) (K : Nat) (v : Int) (w : World) (h : MAt w p n t) (hK : K < 18446744073709551616) (hn : n ≤ 1000000) :
    Calls Try.prog 36 #[.agg #[.pointer p, .int .i64 n], .int .u64 (K : Int), .int .i64 v] w fun e w' => ∃ p2 n2, e = .returned (.agg #[.pointer p2, .int .i64 n2]) ∧ Below w.heap.size w w' ∧ MAt w' p2 n2 (some (insO t K v)) := by
  have nM : n ≤ 1000000 := hn
  have n0 : 0 ≤ n := by rw [h.n]; omega
  go_enter Try.func36, Try.ntmps36
  go_upto_region 1 with fail
  refine to_cls ?_
  intro U hU z
  have rM : ∀ z : Wb U, Row z.at w.heap.size [.pointer p, .int .i64 n] 69 := Row.next ((Row.new w [.pointer p, .int .i64 n] _).old _) hU
  have rR : ∀ z : Wb U, Row z.at (w.heap.size + 1) [.pointer none, .int .i64 0] 69 := Row.next (Row.new' _ [.pointer none, .int .i64 0] _ _ (by simp)) hU
  have bU : Below w.heap.size w U := (KB.alloc (KB.alloc (Below.refl _ _) _) _).trans (hU.mono (by simp; omega))
  clear hU
  obtain ⟨M, hM⟩ : ∃ M, M = w.heap.size := ⟨_, rfl⟩
  obtain ⟨R, hR⟩ : ∃ R, R = w.heap.size + 1 := ⟨_, rfl⟩
  rw [← hR] at rR
  simp only [← hR]
  rw [← hM] at rM
  simp only [← hM]
  have HM := Lib.hid hM
  have HR := Lib.hid (show R = M + 1 by rw [hR, hM])
  clear hM hR
  have cM0 : ∀ z : Wb U, z.at.cell? ⟨M, 0, none⟩ = some (.pointer p) := fun z => (rM z).cell 0
  have cM1 : ∀ z : Wb U, z.at.cell? ⟨M, 1, none⟩ = some (.int .i64 n) := fun z => (rM z).cell 1
  have fM : ∀ (z : Wb U) (i : Nat), z.at.frozen? ⟨M, i, none⟩ = false := fun z i => (rM z).free i
  have cR0 : ∀ z : Wb U, z.at.cell? ⟨R, 0, none⟩ = some (.pointer none) := fun z => (rR z).cell 0
  have cR1 : ∀ z : Wb U, z.at.cell? ⟨R, 1, none⟩ = some (.int .i64 0) := fun z => (rR z).cell 1
  have fR : ∀ (z : Wb U) (i : Nat), z.at.frozen? ⟨R, i, none⟩ = false := fun z i => (rR z).free i
  go_wp2_with fail
  refine (mget_any p n t K z.at (h.below (bU.trans (z.bel.mono bU.size))) hK).mono ?_
  rintro e w2 ⟨rfl, b2⟩
  obtain ⟨z2, rfl⟩ := Wb.next (x := z) b2
  clear b2
  have IQv := Lib.hid (insO_ok (t := t) (k := K) (v := v) h.wf hK)
  cases g : lookO t K with
  | none =>
    have NL := Lib.hid (show n + 1 = ((toLO (some (insO t K v))).length : Int) by rw [h.n]; have := IQv.out.2.2; rw [g] at this; simp only [toLO, Option.isSome, if_false, Bool.false_eq_true] at this ⊢; omega)
    clear g
    unfold getV
    go_upto_region 4 with fail
    refine to_cls ?_
    intro U2 hU2 z3
    have bU2 : Below w.heap.size w U2 := (KB.put (bU.trans (z2.bel.mono bU.size)) (by rw [HM.out]; exact Nat.le_refl _) 1 _).trans (hU2.mono (KB.put (bU.trans (z2.bel.mono bU.size)) (by rw [HM.out]; exact Nat.le_refl _) 1 _).size)
    clear cM0 cM1 fM cR0 cR1 fR
    have rM : ∀ z : Wb U2, Row z.at M [.pointer p, .int .i64 (n + 1)] 69 := Row.next ((rM z2).set 1 _) hU2
    have rR : ∀ z : Wb U2, Row z.at R [.pointer none, .int .i64 0] 69 := Row.next ((rR z2).oth (by have := HR.out; omega) 1 _) hU2
    have cM0 : ∀ z : Wb U2, z.at.cell? ⟨M, 0, none⟩ = some (.pointer p) := fun z => (rM z).cell 0
    have cM1 : ∀ z : Wb U2, z.at.cell? ⟨M, 1, none⟩ = some (.int .i64 (n + 1)) := fun z => (rM z).cell 1
    have fM : ∀ (z : Wb U2) (i : Nat), z.at.frozen? ⟨M, i, none⟩ = false := fun z i => (rM z).free i
    have cR0 : ∀ z : Wb U2, z.at.cell? ⟨R, 0, none⟩ = some (.pointer none) := fun z => (rR z).cell 0
    have cR1 : ∀ z : Wb U2, z.at.cell? ⟨R, 1, none⟩ = some (.int .i64 0) := fun z => (rR z).cell 1
    have fR : ∀ (z : Wb U2) (i : Nat), z.at.frozen? ⟨R, i, none⟩ = false := fun z i => (rR z).free i
    have q3 : Below w.heap.size w z3.at := bU2.trans (z3.bel.mono bU2.size)
    have MR := Lib.hid (show M < z3.at.heap.size ∧ R < z3.at.heap.size from ⟨(rM z3).lt, (rR z3).lt⟩)
    have WC := Lib.hid (withO (fun C => C ≠ M ∧ C ≠ R) t p z3.at.heap.size K v (z3.at.alloc (.cells (leafCells K v).toArray 110)) ?_ ?_ ?_ ?_ hK ?_)
    rotate_left 1
    · exact PS.mono (fun C (hC : C < w.heap.size) => by have := HR.out; have := HM.out; constructor <;> omega) (PS.below (KB.alloc q3 _) (PS.lt h.at'))
    · exact h.wf
    · have := MR.out; constructor <;> omega
    · exact Row.new z3.at (leafCells K v) _
    · intro C hC; have := MR.out; simp at hC; constructor <;> omega
    clear h
    go_wp2_with fail
    refine WC.out.mono ?_
    rintro e w4 ⟨B2, rfl, b4, t4⟩
    have T4 := Lib.hid t4
    clear t4 WC
    obtain ⟨z4, rfl⟩ := Wb.next (x := z3) ((KB.alloc (Below.refl _ _) _ : Below z3.at.heap.size z3.at _).trans (b4.mono (by simp)))
    clear b4
    go_upto_region 5 with fail
    refine to_cls ?_
    intro U5 hU5 z5
    have q4 : Below w.heap.size w z4.at := bU2.trans (z4.bel.mono bU2.size)
    have wM : w.heap.size ≤ M := by rw [HM.out]; exact Nat.le_refl _
    have bU5 : Below w.heap.size w U5 := (KB.put q4 wM 0 _).trans (hU5.mono (KB.put q4 wM 0 _).size)
    clear cM0 cM1 fM cR0 cR1 fR
    have rM : ∀ z : Wb U5, Row z.at M [.pointer (some ⟨B2, 0, none⟩), .int .i64 (n + 1)] 69 := Row.next ((rM z4).set 0 _) hU5
    have rR : ∀ z : Wb U5, Row z.at R [.pointer none, .int .i64 0] 69 := Row.next ((rR z4).oth (by have := HR.out; omega) 0 _) hU5
    have T5 := Lib.hid (fun z : Wb U5 => TrS.below z.bel _ B2 (TrS.below hU5 _ B2 (TrS.set (fun hS => hS.1 rfl) 0 _ _ B2 T4.out)))
    have cM0 : ∀ z : Wb U5, z.at.cell? ⟨M, 0, none⟩ = some (.pointer (some ⟨B2, 0, none⟩)) := fun z => (rM z).cell 0
    have cM1 : ∀ z : Wb U5, z.at.cell? ⟨M, 1, none⟩ = some (.int .i64 (n + 1)) := fun z => (rM z).cell 1
    have fM : ∀ (z : Wb U5) (i : Nat), z.at.frozen? ⟨M, i, none⟩ = false := fun z i => (rM z).free i
    have cR0 : ∀ z : Wb U5, z.at.cell? ⟨R, 0, none⟩ = some (.pointer none) := fun z => (rR z).cell 0
    have cR1 : ∀ z : Wb U5, z.at.cell? ⟨R, 1, none⟩ = some (.int .i64 0) := fun z => (rR z).cell 1
    have fR : ∀ (z : Wb U5) (i : Nat), z.at.frozen? ⟨R, i, none⟩ = false := fun z i => (rR z).free i
    go_wp2
    have q5 : Below w.heap.size w z5.at := bU5.trans (z5.bel.mono bU5.size)
    have wR : w.heap.size ≤ R := by have := HR.out; omega
    refine bodyPost_ret (v := .agg #[.pointer (some ⟨B2, 0, none⟩), .int .i64 (n + 1)]) (by simp [results, Try.results36, go_sem, *]) rfl ⟨_, _, rfl, KB.put (KB.put q5 wR 0 _) wR 1 _, ⟨⟨B2, rfl, TrS.mono (fun _ _ => trivial) _ _ (TrS.set (fun hS => hS.2 rfl) 1 _ _ B2 (TrS.set (fun hS => hS.2 rfl) 0 _ _ B2 (T5.out z5)))⟩, ?_, (IQv.out).1⟩⟩
    exact NL.out
  | some u =>
    have NL := Lib.hid (show n = ((toLO (some (insO t K v))).length : Int) by rw [h.n]; have := IQv.out.2.2; rw [g] at this; simp only [toLO, Option.isSome, if_true] at this ⊢; omega)
    clear g
    unfold getV
    go_upto_region 4 with fail
    refine to_cls ?_
    intro U2 hU2 z3
    have bU2 : Below w.heap.size w U2 := (bU.trans (z2.bel.mono bU.size)).trans (hU2.mono (bU.trans (z2.bel.mono bU.size)).size)
    clear cM0 cM1 fM cR0 cR1 fR
    have rM : ∀ z : Wb U2, Row z.at M [.pointer p, .int .i64 n] 69 := Row.next (rM z2) hU2
    have rR : ∀ z : Wb U2, Row z.at R [.pointer none, .int .i64 0] 69 := Row.next (rR z2) hU2
    have cM0 : ∀ z : Wb U2, z.at.cell? ⟨M, 0, none⟩ = some (.pointer p) := fun z => (rM z).cell 0
    have cM1 : ∀ z : Wb U2, z.at.cell? ⟨M, 1, none⟩ = some (.int .i64 n) := fun z => (rM z).cell 1
    have fM : ∀ (z : Wb U2) (i : Nat), z.at.frozen? ⟨M, i, none⟩ = false := fun z i => (rM z).free i
    have cR0 : ∀ z : Wb U2, z.at.cell? ⟨R, 0, none⟩ = some (.pointer none) := fun z => (rR z).cell 0
    have cR1 : ∀ z : Wb U2, z.at.cell? ⟨R, 1, none⟩ = some (.int .i64 0) := fun z => (rR z).cell 1
    have fR : ∀ (z : Wb U2) (i : Nat), z.at.frozen? ⟨R, i, none⟩ = false := fun z i => (rR z).free i
    have q3 : Below w.heap.size w z3.at := bU2.trans (z3.bel.mono bU2.size)
    have MR := Lib.hid (show M < z3.at.heap.size ∧ R < z3.at.heap.size from ⟨(rM z3).lt, (rR z3).lt⟩)
    have WC := Lib.hid (withO (fun C => C ≠ M ∧ C ≠ R) t p z3.at.heap.size K v (z3.at.alloc (.cells (leafCells K v).toArray 110)) ?_ ?_ ?_ ?_ hK ?_)
    rotate_left 1
    · exact PS.mono (fun C (hC : C < w.heap.size) => by have := HR.out; have := HM.out; constructor <;> omega) (PS.below (KB.alloc q3 _) (PS.lt h.at'))
    · exact h.wf
    · have := MR.out; constructor <;> omega
    · exact Row.new z3.at (leafCells K v) _
    · intro C hC; have := MR.out; simp at hC; constructor <;> omega
    clear h
    go_wp2_with fail
    refine WC.out.mono ?_
    rintro e w4 ⟨B2, rfl, b4, t4⟩
    have T4 := Lib.hid t4
    clear t4 WC
    obtain ⟨z4, rfl⟩ := Wb.next (x := z3) ((KB.alloc (Below.refl _ _) _ : Below z3.at.heap.size z3.at _).trans (b4.mono (by simp)))
    clear b4
    go_upto_region 5 with fail
    refine to_cls ?_
    intro U5 hU5 z5
    have q4 : Below w.heap.size w z4.at := bU2.trans (z4.bel.mono bU2.size)
    have wM : w.heap.size ≤ M := by rw [HM.out]; exact Nat.le_refl _
    have bU5 : Below w.heap.size w U5 := (KB.put q4 wM 0 _).trans (hU5.mono (KB.put q4 wM 0 _).size)
    clear cM0 cM1 fM cR0 cR1 fR
    have rM : ∀ z : Wb U5, Row z.at M [.pointer (some ⟨B2, 0, none⟩), .int .i64 n] 69 := Row.next ((rM z4).set 0 _) hU5
    have rR : ∀ z : Wb U5, Row z.at R [.pointer none, .int .i64 0] 69 := Row.next ((rR z4).oth (by have := HR.out; omega) 0 _) hU5
    have T5 := Lib.hid (fun z : Wb U5 => TrS.below z.bel _ B2 (TrS.below hU5 _ B2 (TrS.set (fun hS => hS.1 rfl) 0 _ _ B2 T4.out)))
    have cM0 : ∀ z : Wb U5, z.at.cell? ⟨M, 0, none⟩ = some (.pointer (some ⟨B2, 0, none⟩)) := fun z => (rM z).cell 0
    have cM1 : ∀ z : Wb U5, z.at.cell? ⟨M, 1, none⟩ = some (.int .i64 n) := fun z => (rM z).cell 1
    have fM : ∀ (z : Wb U5) (i : Nat), z.at.frozen? ⟨M, i, none⟩ = false := fun z i => (rM z).free i
    have cR0 : ∀ z : Wb U5, z.at.cell? ⟨R, 0, none⟩ = some (.pointer none) := fun z => (rR z).cell 0
    have cR1 : ∀ z : Wb U5, z.at.cell? ⟨R, 1, none⟩ = some (.int .i64 0) := fun z => (rR z).cell 1
    have fR : ∀ (z : Wb U5) (i : Nat), z.at.frozen? ⟨R, i, none⟩ = false := fun z i => (rR z).free i
    go_wp2
    have q5 : Below w.heap.size w z5.at := bU5.trans (z5.bel.mono bU5.size)
    have wR : w.heap.size ≤ R := by have := HR.out; omega
    refine bodyPost_ret (v := .agg #[.pointer (some ⟨B2, 0, none⟩), .int .i64 n]) (by simp [results, Try.results36, go_sem, *]) rfl ⟨_, _, rfl, KB.put (KB.put q5 wR 0 _) wR 1 _, ⟨⟨B2, rfl, TrS.mono (fun _ _ => trivial) _ _ (TrS.set (fun hS => hS.2 rfl) 1 _ _ B2 (TrS.set (fun hS => hS.2 rfl) 0 _ _ B2 (T5.out z5)))⟩, ?_, (IQv.out).1⟩⟩
    exact NL.out
end Go.Proofs.Ytnpgpbcpgniloaa.MI

namespace GrS
end GrS
namespace Go.Proofs.Ytnpgpbcpgniloaa.MI
open Go.RowKit GrS

theorem TrS.avoid {V : World} {S : Nat → Prop} {P : Nat} {L : List Value} {T : TypeId} (hP : Row V P L T) (hL : L.length ≠ 5) : ∀ (t : Tr) (B : Nat), TrS V S B t → TrS V (fun C => S C ∧ C ≠ P) B t := by
  have no : ∀ (B : Nat) (L' : List Value) (T' : TypeId), Row V B L' T' → L'.length = 5 → B ≠ P := by
    rintro B L' T' h h5 rfl
    have := h.heap.symm.trans hP.heap
    injection this with this
    injection this with e1
    have := congrArg Array.size e1
    simp at this
    omega
  intro t
  induction t with
  | leaf k v => exact fun B h => ⟨⟨h.1, no _ _ _ h.2 rfl⟩, h.2⟩
  | node k b l r ihl ihr => exact fun B ⟨s, x, y, h, hl, hr⟩ => ⟨⟨s, no _ _ _ h rfl⟩, x, y, h, ihl x hl, ihr y hr⟩
theorem PAt.set {V : World} {p : Option Addr} {t : Option Tr} {P : Nat} {L : List Value} {T : TypeId} (h : PAt V p t) (hP : Row V P L T) (hL : L.length ≠ 5) (i : Nat) (v : Value) : PAt (V.setCell ⟨P, i, none⟩ v) p t := by
  cases t with
  | none => exact h
  | some t => obtain ⟨B, e, h⟩ := h; exact ⟨B, e, TrS.mono (fun _ _ => trivial) _ _ (TrS.set (fun hS => hS.2 rfl) i v _ B (TrS.avoid hP hL _ B h))⟩
theorem MAt.set {V : World} {p : Option Addr} {n : Int} {t : Option Tr} {P : Nat} {L : List Value} {T : TypeId} (h : MAt V p n t) (hP : Row V P L T) (hL : L.length ≠ 5) (i : Nat) (v : Value) : MAt (V.setCell ⟨P, i, none⟩ v) p n t := ⟨h.at'.set hP hL i v, h.n, h.wf⟩

set_option maxRecDepth 100000 in
set_option maxHeartbeats 3200000 in
theorem Without_any (p : Option Addr) (n : Int) (t : Option Tr) (K : Nat) (w : World) (h : MAt w p n t) (hK : K < 18446744073709551616) (hn : n ≤ 1000000) :
    Calls Try.prog 37 #[.agg #[.pointer p, .int .i64 n], .int .u64 (K : Int)] w fun e w' => ∃ p2 n2, e = .returned (.agg #[.pointer p2, .int .i64 n2]) ∧ Below w.heap.size w w' ∧ MAt w' p2 n2 (delO t K) := by
  have nM : n ≤ 1000000 := hn
  have n0 : 0 ≤ n := by rw [h.n]; omega
  go_enter Try.func37, Try.ntmps37
  go_upto_region 1 with fail
  refine to_cls ?_
  intro U hU z
  have rM : ∀ z : Wb U, Row z.at w.heap.size [.pointer p, .int .i64 n] 69 := Row.next ((Row.new w [.pointer p, .int .i64 n] _).old _) hU
  have rR : ∀ z : Wb U, Row z.at (w.heap.size + 1) [.pointer none, .int .i64 0] 69 := Row.next (Row.new' _ [.pointer none, .int .i64 0] _ _ (by simp)) hU
  have bU : Below w.heap.size w U := (KB.alloc (KB.alloc (Below.refl _ _) _) _).trans (hU.mono (by simp; omega))
  clear hU
  obtain ⟨M, hM⟩ : ∃ M, M = w.heap.size := ⟨_, rfl⟩
  obtain ⟨R, hR⟩ : ∃ R, R = w.heap.size + 1 := ⟨_, rfl⟩
  rw [← hR] at rR
  simp only [← hR]
  rw [← hM] at rM
  simp only [← hM]
  have HM := Lib.hid hM
  have HR := Lib.hid (show R = M + 1 by rw [hR, hM])
  clear hM hR
  have cM0 : ∀ z : Wb U, z.at.cell? ⟨M, 0, none⟩ = some (.pointer p) := fun z => (rM z).cell 0
  have cM1 : ∀ z : Wb U, z.at.cell? ⟨M, 1, none⟩ = some (.int .i64 n) := fun z => (rM z).cell 1
  have fM : ∀ (z : Wb U) (i : Nat), z.at.frozen? ⟨M, i, none⟩ = false := fun z i => (rM z).free i
  have cR0 : ∀ z : Wb U, z.at.cell? ⟨R, 0, none⟩ = some (.pointer none) := fun z => (rR z).cell 0
  have cR1 : ∀ z : Wb U, z.at.cell? ⟨R, 1, none⟩ = some (.int .i64 0) := fun z => (rR z).cell 1
  have fR : ∀ (z : Wb U) (i : Nat), z.at.frozen? ⟨R, i, none⟩ = false := fun z i => (rR z).free i
  go_wp2_with fail
  refine (mget_any p n t K z.at (h.below (bU.trans (z.bel.mono bU.size))) hK).mono ?_
  rintro e w2 ⟨rfl, b2⟩
  obtain ⟨z2, rfl⟩ := Wb.next (x := z) b2
  clear b2
  cases g : lookO t K with
  | none =>
    have ED := Lib.hid (show delO t K = t by unfold delO; rw [g]; rfl)
    clear g
    unfold getV
    go_wp2
    have q2 : Below w.heap.size w z2.at := bU.trans (z2.bel.mono bU.size)
    have wR : w.heap.size ≤ R := by have := HR.out; have := HM.out; omega
    refine bodyPost_ret (v := .agg #[.pointer p, .int .i64 n]) (by simp [results, Try.results37, go_sem, *]) rfl ⟨_, _, rfl, KB.put (KB.put q2 wR 0 _) wR 1 _, ?_⟩
    rw [ED.out]
    exact ((h.below q2).set (rR z2) (by simp) 0 _).set ((rR z2).set 0 _) (by simp) 1 _
  | some u =>
    cases t with
    | none => cases g
    | some t =>
      obtain ⟨⟨B, rfl, ht⟩, hn2, hw⟩ := h
      have KM : K ∈ t.keys := (look_mem hw K).1 (by rw [show t.look K = some u from g]; simp)
      have ED := Lib.hid (show delO (some t) K = t.del K by unfold delO; rw [g]; rfl)
      have DL := Lib.hid (del_ok hw KM)
      have NL := Lib.hid (show n - 1 = ((toLO (t.del K)).length : Int) by rw [hn2]; have := DL.out.2.2.2; simp only [toLO] at this ⊢; omega)
      clear g hn2
      unfold getV
      go_wp2_with fail
      have q2 : Below w.heap.size w z2.at := bU.trans (z2.bel.mono bU.size)
      have wR : w.heap.size ≤ R := by have := HR.out; have := HM.out; omega
      have HB := Lib.hid ht
      clear ht
      have KS := Lib.hid (show ∀ z : Wb U, z.at.cell? ⟨M, 0, none⟩ = some (.pointer (some ⟨B, 0, none⟩)) ∧ z.at.cell? ⟨M, 1, none⟩ = some (.int .i64 n) ∧ z.at.cell? ⟨R, 0, none⟩ = some (.pointer none) ∧ z.at.cell? ⟨R, 1, none⟩ = some (.int .i64 0) ∧ z.at.frozen? ⟨R, 0, none⟩ = false ∧ z.at.frozen? ⟨R, 1, none⟩ = false from fun z => ⟨cM0 z, cM1 z, cR0 z, cR1 z, fR z 0, fR z 1⟩)
      have K0 := Lib.hid (show z2.at.drew.cell? ⟨M, 0, none⟩ = some (.pointer (some ⟨B, 0, none⟩)) ∧ z2.at.drew.cell? ⟨M, 1, none⟩ = some (.int .i64 n) from ⟨cM0 z2, cM1 z2⟩)
      have KE := Lib.hid (show ∀ (z : Wb U) u v, (((z.at).setCell ⟨R, 0, none⟩ u).setCell ⟨R, 1, none⟩ v).cell? ⟨M, 0, none⟩ = some (.pointer (some ⟨B, 0, none⟩)) ∧ (((z.at).setCell ⟨R, 0, none⟩ u).setCell ⟨R, 1, none⟩ v).cell? ⟨M, 1, none⟩ = some (.int .i64 n) from fun z u v => ⟨(((rM z).oth (by have := HR.out; omega) 0 _).oth (by have := HR.out; omega) 1 _).cell 0, (((rM z).oth (by have := HR.out; omega) 0 _).oth (by have := HR.out; omega) 1 _).cell 1⟩)
      go_region_held3 (fun w' => w'.cell? ⟨M, 0, none⟩ = some (.pointer (some ⟨B, 0, none⟩)) ∧ w'.cell? ⟨M, 1, none⟩ = some (.int .i64 n))
        (first | exact K0.out | exact ⟨(KS.out z4).1, (KS.out z4).2.1⟩ | exact KE.out _ _ _)
        (first | (go_at_call 56; refine (without_some t B K _ (TrS.below (q2.drew) _ B HB.out) hw KM).mono ?_; rintro e w4 ⟨p2, rfl, b4, t4⟩; have T4 := Lib.hid t4; clear t4; obtain ⟨z4, rfl⟩ := Wb.next (x := z2) (show Below z2.at.heap.size z2.at w4 from ((Below.refl z2.at.heap.size z2.at).drew).trans b4); clear b4))
      have q4 : Below w.heap.size w z4.at := bU.trans (z4.bel.mono bU.size)
      have W1 : IntKind.i64.wrap (n - 1) = n - 1 := IntWalk.i64_in _ ⟨by omega, by omega⟩
      go_wp2
      refine bodyPost_ret (v := .agg #[.pointer p2, .int .i64 (n - 1)]) (by simp [results, Try.results37, go_sem, *]) rfl ⟨_, _, rfl, KB.put (KB.put q4 wR 0 _) wR 1 _, ?_⟩
      rw [ED.out]
      have MA : MAt z4.at p2 (n - 1) (t.del K) := ⟨T4.out, NL.out, DL.out.1⟩
      exact (MA.set (rR z4) (by simp) 0 _).set ((rR z4).set 0 _) (by simp) 1 _

end Go.Proofs.Ytnpgpbcpgniloaa.MI

namespace Go.Proofs.Ytnpgpbcpgniloaa.MI
open Go.RowKit Go.Shelf GrS
attribute [local go_sem] Oper.semAt_some

abbrev encP (x : Nat × Int) : Array Value := #[.int .u64 (x.1 : Int), .int .i64 x.2]

set_option maxRecDepth 100000 in
set_option maxHeartbeats 1000000 in
theorem each_in (F : Fence) (hd : F.depth = none) (h6 : F.fn 58) (hro : F.round = none) (l n₀ N : Nat) (J Jx : List (Nat × Int) → World → Prop) (hJ : ∀ s W W', J s W → W.grownBy W' none → J s W')
    (hY : ∀ m pre (x : Nat × Int) W, J pre W → pre.length < N → YieldAt F m Try.prog l #[.int .u64 (x.1 : Int), .int .i64 x.2] W fun e W' =>
      (e = .returned (.bool true) ∧ J (pre ++ [x]) W' ∧ Below n₀ W W') ∨ (e = .returned (.bool false) ∧ Jx (pre ++ [x]) W')) (t : Tr) :
    ∀ (n B : Nat) (pre : List (Nat × Int)) (W : World), TrS W (fun C => C < n₀) B t → J pre W → pre.length + t.toL.length ≤ N →
      CallsIn F n Try.prog 58 #[.pointer (some ⟨B, 0, none⟩), .func (.yield l) #[] #[]] W fun e W' =>
        (e = .returned (.bool true) ∧ J (pre ++ t.toL) W' ∧ Below n₀ W W') ∨ (e = .returned (.bool false) ∧ ∃ q, q <+: t.toL ∧ Jx (pre ++ q) W') := by
  induction t with
  | leaf k v =>
    intro n B pre W ht hJ0 hN
    have e0 : W.cell? ⟨B, 0, none⟩ = some (.int .u64 (k : Int)) := Row.cell ht.2 0
    have e1 : W.cell? ⟨B, 1, none⟩ = some (.int .i64 v) := Row.cell ht.2 1
    have e3 : W.cell? ⟨B, 3, none⟩ = some (.pointer none) := Row.cell ht.2 3
    have hdd : ∀ k : Nat, (F.depth.isSome = true → 1 ≤ k) := fun k h => by rw [hd] at h; cases h
    have YY := Lib.hid (fun m => YieldAt.mono (R' := fun e W' => ∃ c : Bool, e = .returned (.bool c) ∧ (c = true → J (pre ++ [(k, v)]) W' ∧ Below n₀ W W') ∧ (c = false → Jx (pre ++ [(k, v)]) W')) (hY (n - 1) pre (k, v) (W.drewN m) (hJ _ _ _ hJ0 (grown_drewN' W m)) (by simp [Tr.toL] at hN; omega)) (fun e W' h => h.elim (fun ⟨a, b, d⟩ => ⟨true, a, fun _ => ⟨b, (below_drewN _ _ _).trans d⟩, fun e => by cases e⟩) (fun ⟨a, b⟩ => ⟨false, a, (fun e => by cases e), fun _ => b⟩)))
    clear hY hJ hJ0 ht
    refine callsIn_of_wp Try.func58 rfl h6 ?_ hro
    simp only [Try.ntmps58, List.size_toArray, List.length_cons, List.length_nil, Nat.reduceAdd, Nat.reduceSub, Array.replicate_succ, Array.replicate_zero, List.push_toArray, List.append_toArray, List.nil_append, List.cons_append]
    gi_wp2
    refine wpIn_region_drew_tail hro 9 (by kernel_rfl) (by kernel_rfl) ?_
    simp only [List.take_succ_cons, List.take_zero, List.drop_succ_cons, List.drop_zero]
    repeat (gi_big_quiet_step (fail))
    refine wpQuietIn_nil ?_
    rintro _ ⟨m, rfl⟩
    obtain ⟨fn, tmps, assign, body, hy, hR⟩ := YY.out m
    clear YY
    gi_wp2_with ((try refine ⟨hdd _, ?_⟩); refine hR.mono ?_; clear hR; rintro e W2 ⟨c, rfl, hc⟩; have HC := Lib.hid hc; clear hc)
    go_ret
    cases c with
    | true => exact .inl ⟨rfl, (HC.out.1 rfl).1, (HC.out.1 rfl).2⟩
    | false => exact .inr ⟨rfl, [(k, v)], ⟨[], rfl⟩, HC.out.2 rfl⟩
  | node k b tl tr ihl ihr =>
    intro n B pre W ht hJ0 hN
    obtain ⟨hB, x, y, hr, hl, hrr⟩ := ht
    have e3 : W.cell? ⟨B, 3, none⟩ = some (.pointer (some ⟨x, 0, none⟩)) := Row.cell hr 3
    have hdd : ∀ k : Nat, (F.depth.isSome = true → 1 ≤ k) := fun k h => by rw [hd] at h; cases h
    simp only [Tr.toL, List.length_append] at hN
    have IH2 := Lib.hid (fun W1 (h1 : J (pre ++ tl.toL) W1) (h2 : Below n₀ W W1) => ihr (n - 1) y (pre ++ tl.toL) W1 (TrS.upto h2 (fun _ h => h) tr y hrr) h1 (by simp only [List.length_append]; omega))
    have ih1 := (ihl (n - 1) x pre W hl hJ0 (by omega)).mono (R' := fun e W1 =>
        (e = .returned (.bool true) ∧ W1.cell? ⟨B, 4, none⟩ = some (.pointer (some ⟨y, 0, none⟩)) ∧ J (pre ++ tl.toL) W1 ∧ Below n₀ W W1) ∨ (e = .returned (.bool false) ∧ ∃ q, q <+: tl.toL ∧ Jx (pre ++ q) W1))
      (fun e W1 h => h.elim (fun ⟨he, hj, hb1⟩ => .inl ⟨he, (Row.cell (Row.upto hr hb1 hB) 4), hj, hb1⟩) .inr)
    clear hY hJ ihl ihr hl hrr hr hJ0 hN
    refine callsIn_of_wp Try.func58 rfl h6 ?_ hro
    simp only [Try.ntmps58, List.size_toArray, List.length_cons, List.length_nil, Nat.reduceAdd, Nat.reduceSub, Array.replicate_succ, Array.replicate_zero, List.push_toArray, List.append_toArray, List.nil_append, List.cons_append]
    gi_wp2_with (first
      | ((try refine ⟨hdd _, ?_⟩); gi_at_call 58; refine ih1.mono ?_; clear ih1; rintro e W1 (⟨rfl, e4, hJ1, hb1⟩ | ⟨rfl, q, hq, hx1⟩))
      | ((try refine ⟨hdd _, ?_⟩); gi_at_call 58; refine (IH2.out _ hJ1 hb1).mono ?_; rintro e W2 (⟨rfl, hJ2, hb2⟩ | ⟨rfl, q, hq, hx2⟩)))
    · go_ret
      exact .inl ⟨rfl, by rw [Tr.toL, ← List.append_assoc]; exact hJ2, hb1.trans hb2⟩
    · go_ret
      obtain ⟨rest, hrest⟩ := hq
      exact .inr ⟨rfl, tl.toL ++ q, ⟨rest, by rw [Tr.toL, List.append_assoc, hrest]⟩, by rw [← List.append_assoc]; exact hx2⟩
    · go_ret
      exact .inr ⟨rfl, q, hq.trans (List.prefix_append _ _), hx1⟩

theorem each_none (F : Fence) (hd : F.depth = none) (h6 : F.fn 58) (hro : F.round = none) (n l : Nat) (W : World) :
    CallsIn F n Try.prog 58 #[.pointer none, .func (.yield l) #[] #[]] W fun e W' => e = .returned (.bool true) ∧ W = W' := by
  refine callsIn_of_wp Try.func58 rfl h6 ?_ hro
  simp only [Try.ntmps58, List.size_toArray, List.length_cons, List.length_nil, Nat.reduceAdd, Nat.reduceSub, Array.replicate_succ, Array.replicate_zero, List.push_toArray, List.append_toArray, List.nil_append, List.cons_append]
  gi_wp2
  go_ret
  exact ⟨rfl, rfl⟩

set_option maxRecDepth 100000 in
set_option maxHeartbeats 2000000 in
theorem eachf_in (F : Fence) (hd : F.depth = none) (n : Nat) (h5 : F.fn 57) (h6 : F.fn 58) (hro : F.round = none) (l Bm n₀ : Nat) (p : Option Addr) (t : Option Tr) (J Jx : List (Nat × Int) → World → Prop)
    (hJ : ∀ s W W', J s W → W.grownBy W' none → J s W')
    (hY : ∀ pre (x : Nat × Int) W, J pre W → pre.length < (toLO t).length → YieldAt F (n - 1) Try.prog l (encP x) W fun e W' =>
      (e = .returned (.bool true) ∧ J (pre ++ [x]) W' ∧ Below n₀ W W') ∨ (e = .returned (.bool false) ∧ Jx (pre ++ [x]) W'))
    (W : World) (hB : W.cell? ⟨Bm, 0, none⟩ = some (.pointer p)) (hT : PS W (fun C => C < n₀) p t) (h0 : J [] W) :
    CallsIn F n Try.prog 57 #[.func (.yield l) #[] #[], .pointer (some ⟨Bm, 0, none⟩)] W fun e W' => (∃ v, e = .returned v) ∧
      ((∃ ys, ys = toLO t ∧ J ys W') ∨ (∃ pre, pre <+: toLO t ∧ Jx pre W')) := by
  have hdd : ∀ k : Nat, (F.depth.isSome = true → 1 ≤ k) := fun k h => by rw [hd] at h; cases h
  cases t with
  | none =>
    obtain rfl : p = none := hT
    have hp := each_none F hd h6 hro (n - 1) l W
    have H0 := Lib.hid h0
    clear hY hJ h0
    refine callsIn_of_wp Try.func57 rfl h5 ?_ hro
    simp only [Try.ntmps57, List.size_toArray, List.length_cons, List.length_nil, Nat.reduceAdd, Nat.reduceSub, Array.replicate_succ, Array.replicate_zero, List.push_toArray, List.append_toArray, List.nil_append, List.cons_append]
    gi_wp2_with ((try refine ⟨hdd _, ?_⟩); gi_at_call 58; refine hp.mono ?_; clear hp; rintro e W1 ⟨rfl, rfl⟩)
    go_end0
    exact ⟨⟨_, rfl⟩, .inl ⟨_, rfl, H0.out⟩⟩
  | some t =>
    obtain ⟨B, rfl, hT⟩ := hT
    have hp := each_in F hd h6 hro l n₀ t.toL.length J Jx hJ (fun m pre x W hj hl => yield_anyDepth hd m (hY pre x W hj hl)) t (n - 1) B [] W hT h0 (by simp)
    clear hY hJ h0 hT
    refine callsIn_of_wp Try.func57 rfl h5 ?_ hro
    simp only [Try.ntmps57, List.size_toArray, List.length_cons, List.length_nil, Nat.reduceAdd, Nat.reduceSub, Array.replicate_succ, Array.replicate_zero, List.push_toArray, List.append_toArray, List.nil_append, List.cons_append]
    gi_wp2_with ((try refine ⟨hdd _, ?_⟩); gi_at_call 58; refine hp.mono ?_; clear hp; rintro e W1 (⟨rfl, hJ1, _⟩ | ⟨rfl, q, hq, hx⟩))
    · go_end0
      exact ⟨⟨_, rfl⟩, .inl ⟨_, rfl, by simpa [toLO] using hJ1⟩⟩
    · go_end0
      exact ⟨⟨_, rfl⟩, .inr ⟨q, hq, by simpa using hx⟩⟩

theorem eachm_any (p : Option Addr) (m : Int) (w : World) :
    Calls Try.prog 41 #[.agg #[.pointer p, .int .i64 m]] w fun e w' => e = .returned (.func (.func 57) #[] #[.pointer (some ⟨w.heap.size, 0, none⟩)]) ∧ w' = w.alloc (.cells #[.pointer p, .int .i64 m] 69) := by
  go_enter Try.func41, Try.ntmps41
  go_wp2
  go_ret
  exact ⟨rfl, rfl⟩

theorem PS.upto {V U : World} {n₀ : Nat} {p : Option Addr} {t : Option Tr} (k : Below n₀ V U) (h : PS V (fun C => C < n₀) p t) : PS U (fun C => C < n₀) p t := by
  cases t with
  | none => exact h
  | some t => obtain ⟨B, e, h⟩ := h; exact ⟨B, e, TrS.upto k (fun _ h => h) t B h⟩
theorem each_stops (F : Fence) (hd : F.depth = none) (n : Nat) (h5 : F.fn 57) (h6 : F.fn 58) (hro : F.round = none) (Bm n₀ : Nat) (p : Option Addr) (t : Option Tr) (w : World) (hBm : Bm < w.heap.size) (hn₀ : n₀ ≤ w.heap.size)
    (hc : w.cell? ⟨Bm, 0, none⟩ = some (.pointer p)) (hT : PS w (fun C => C < n₀) p t) :
    SeqStopsK F n Try.prog 57 #[.pointer (some ⟨Bm, 0, none⟩)] encP (Below n₀) (fun ys => ys = toLO t) (fun pre => pre <+: toLO t) (toLO t).length w := fun l J Jx W hW hJ _ hY h0 =>
  eachf_in F hd n h5 h6 hro l Bm n₀ p t J Jx (fun s A B h g => hJ s A B none h g (fun r e => by cases e)) hY W ((hW.cell (p := ⟨Bm, 0, none⟩) hBm).trans hc) (PS.upto (hW.mono hn₀) hT) h0
end Go.Proofs.Ytnpgpbcpgniloaa.MI

namespace GrS
abbrev PL := List (Nat × Int)
def witL (L : PL) (k : Nat) : PL := L.filter (fun p => decide (p.1 ≠ k))
def winL (L : PL) (k : Nat) (v : Int) : PL := witL L k ++ [(k, v)]
def posM (out : PL) (a : Nat) : Nat := (out.takeWhile (fun p => decide (p.1 < a))).length
def insM (out : PL) (p : Nat × Int) : PL := out.take (posM out p.1) ++ [p] ++ out.drop (posM out p.1)
def sortTo (L : PL) (k : Nat) : PL := (L.take k).foldl insM []
theorem sortTo_succ (L : PL) (k : Nat) (h : k < L.length) : sortTo L (k + 1) = insM (sortTo L k) L[k] := by
  unfold sortTo
  rw [List.take_succ_eq_append_getElem h, List.foldl_append]
  rfl
theorem insM_len (out : PL) (p : Nat × Int) : (insM out p).length = out.length + 1 := by
  have := (List.takeWhile_prefix (l := out) (fun q => decide (q.1 < p.1))).length_le
  unfold insM posM
  simp
  omega
theorem sortTo_len (L : PL) : ∀ k, k ≤ L.length → (sortTo L k).length = k
  | 0, _ => rfl
  | k + 1, h => by rw [sortTo_succ L k (by omega), insM_len, sortTo_len L k (by omega)]
theorem posM_eq (out : PL) (a : Nat) (n : Nat) (hn : n ≤ out.length) (h : ∀ j (hj : j < n), (out[j]'(by omega)).1 < a) (e : ∀ (h : n < out.length), ¬ (out[n]).1 < a) : posM out a = n := by
  induction out generalizing n with
  | nil => simp at hn; subst hn; rfl
  | cons p l ih =>
    cases n with
    | zero =>
      have : ¬ p.1 < a := e (by simp)
      unfold posM
      rw [List.takeWhile_cons_of_neg (by simpa using this)]
      rfl
    | succ n =>
      have hp : p.1 < a := h 0 (by omega)
      have := ih n (by simpa using hn) (fun j hj => by simpa using h (j + 1) (by omega)) (fun hl => by
        have := e (by simpa using hl)
        simpa using this)
      unfold posM at this ⊢
      rw [List.takeWhile_cons_of_pos (by simpa using hp), List.length_cons, this]
theorem insM_cons (q : Nat × Int) (l : PL) (p : Nat × Int) : insM (q :: l) p = if q.1 < p.1 then q :: insM l p else p :: q :: l := by
  unfold insM posM
  by_cases c : q.1 < p.1
  · rw [List.takeWhile_cons_of_pos (by simpa using c), if_pos c]; simp
  · rw [List.takeWhile_cons_of_neg (by simpa using c), if_neg c]; simp
theorem insM_mem (out : PL) (p x : Nat × Int) : x ∈ insM out p ↔ x = p ∨ x ∈ out := by
  induction out with
  | nil => simp [insM, posM]
  | cons q l ih =>
    rw [insM_cons]
    split
    · rw [List.mem_cons, ih, List.mem_cons]
      constructor
      · rintro (a | a | a)
        · exact .inr (.inl a)
        · exact .inl a
        · exact .inr (.inr a)
      · rintro (a | a | a)
        · exact .inr (.inl a)
        · exact .inl a
        · exact .inr (.inr a)
    · rw [List.mem_cons]
theorem insM_rise {out : PL} {p : Nat × Int} (h : Rises out) (hp : ∀ q ∈ out, q.1 ≠ p.1) : Rises (insM out p) := by
  induction out with
  | nil => simp [insM, posM, Rises]
  | cons q l ih =>
    have h' := List.pairwise_cons.1 h
    rw [insM_cons]
    split
    · rename_i c
      refine List.pairwise_cons.2 ⟨fun x hx => ?_, ih h'.2 (fun r hr => hp r (List.mem_cons_of_mem _ hr))⟩
      rcases (insM_mem l p x).1 hx with rfl | hx
      · exact c
      · exact h'.1 x hx
    · rename_i c
      have := hp q (List.mem_cons_self ..)
      refine List.pairwise_cons.2 ⟨fun x hx => ?_, h⟩
      rcases List.mem_cons.1 hx with rfl | hx
      · show p.1 < x.1; omega
      · have : q.1 < x.1 := h'.1 x hx
        show p.1 < x.1; omega
/-- no number twice -/
def Once (L : PL) : Prop := (L.map (·.1)).Nodup
theorem sortTo_ok (L : PL) (h : Once L) : ∀ k, k ≤ L.length → Rises (sortTo L k) ∧ ∀ x, x ∈ sortTo L k ↔ x ∈ L.take k
  | 0, _ => ⟨List.Pairwise.nil, fun x => by simp [sortTo]⟩
  | k + 1, hk => by
    obtain ⟨h1, h2⟩ := sortTo_ok L h k (by omega)
    have lk : k < L.length := by omega
    rw [sortTo_succ L k lk, List.take_succ_eq_append_getElem lk]
    refine ⟨insM_rise h1 fun q hq e => ?_, fun x => ?_⟩
    · have hq2 := (h2 q).1 hq
      obtain ⟨i, hi, rfl⟩ := List.mem_iff_getElem.1 hq2
      rw [List.getElem_take] at e
      simp only [List.length_take] at hi
      have := (List.nodup_iff_pairwise_ne.1 h)
      have := List.pairwise_iff_getElem.1 this i k (by simp; omega) (by simpa using lk) (by omega)
      simp only [List.getElem_map] at this
      exact this e
    · rw [insM_mem, h2, List.mem_append, List.mem_singleton, or_comm]
theorem assoc_once {L : PL} (h : Once L) (x : Nat) (v : Int) : assoc L x = some v ↔ (x, v) ∈ L := by
  induction L with
  | nil => simp [assoc]
  | cons p L ih =>
    have h' : p.1 ∉ L.map (·.1) ∧ (L.map (·.1)).Nodup := List.nodup_cons.1 h
    rw [assoc_cons, List.mem_cons]
    by_cases c : p.1 = x
    · rw [if_pos c]
      constructor
      · intro e
        injection e with e
        exact .inl (Prod.ext c.symm e.symm)
      · rintro (e | e)
        · rw [← e]
        · exact absurd (List.mem_map_of_mem (f := (·.1)) e) (by rw [← c]; exact h'.1)
    · rw [if_neg c, ih h'.2]
      constructor
      · exact .inr
      · rintro (e | e)
        · exact absurd (by rw [← e]) c
        · exact e
/-- a tree holds a list's pairs -/
structure RelM (t : Option Tr) (L : PL) : Prop where
  look : ∀ x, lookO t x = assoc L x
  once : Once L
theorem RelM.nil : RelM none [] := ⟨fun x => rfl, List.nodup_nil⟩
theorem assoc_wit (L : PL) (k x : Nat) : assoc (witL L k) x = if x = k then none else assoc L x := by
  induction L with
  | nil => simp [witL, assoc]
  | cons p L ih =>
    unfold witL at ih ⊢
    by_cases c : p.1 = k
    · rw [List.filter_cons_of_neg (by simpa using c), ih, assoc_cons]
      by_cases d : x = k
      · rw [if_pos d, if_pos d]
      · rw [if_neg d, if_neg d, if_neg (by omega)]
    · rw [List.filter_cons_of_pos (by simpa using c), assoc_cons, assoc_cons, ih]
      by_cases d : p.1 = x
      · rw [if_pos d, if_pos d, if_neg (by omega)]
      · rw [if_neg d, if_neg d]
theorem once_wit {L : PL} (h : Once L) (k : Nat) : Once (witL L k) := List.Nodup.sublist (List.Sublist.map _ List.filter_sublist) h
theorem wit_no (L : PL) (k : Nat) : k ∉ (witL L k).map (·.1) := by
  intro h
  obtain ⟨p, hp, e⟩ := List.mem_map.1 h
  have := (List.mem_filter.1 hp).2
  simp at this
  exact this e
theorem RelM.wit {t : Option Tr} {L : PL} (h : RelM t L) (hw : WFO t) (k : Nat) : RelM (delO t k) (witL L k) :=
  ⟨fun x => by rw [(delO_ok hw).2.1 x, assoc_wit, h.look], once_wit h.once k⟩
theorem assoc_snoc (L : PL) (k : Nat) (v : Int) (x : Nat) (hk : k ∉ L.map (·.1)) : assoc (L ++ [(k, v)]) x = if x = k then some v else assoc L x := by
  rw [assoc_app]
  by_cases c : x = k
  · subst c
    rw [assoc_none hk, if_pos rfl]
    simp [assoc]
  · rw [if_neg c]
    have : assoc [(k, v)] x = none := assoc_none (by simpa using c)
    rw [this]
    cases assoc L x <;> rfl
theorem RelM.win {t : Option Tr} {L : PL} (h : RelM t L) (hw : WFO t) {k : Nat} (hk : k < 18446744073709551616) (v : Int) : RelM (some (insO t k v)) (winL L k v) := by
  refine ⟨fun x => ?_, ?_⟩
  · show (insO t k v).look x = _
    rw [(insO_ok hw hk).2.1 x]
    unfold winL
    rw [assoc_snoc _ _ _ _ (wit_no L k), assoc_wit, h.look]
    split <;> rfl
  · unfold Once winL
    rw [List.map_append]
    refine List.nodup_append.2 ⟨once_wit h.once k, by simp, fun a ha b hb e => ?_⟩
    simp at hb
    subst hb e
    exact wit_no L _ ha
theorem RelM.sorted {t : Option Tr} {L : PL} (h : RelM t L) (hw : WFO t) : sortTo L L.length = toLO t := by
  obtain ⟨h1, h2⟩ := sortTo_ok L h.once L.length (Nat.le_refl _)
  rw [List.take_length] at h2
  have tor : Rises (toLO t) := by
    cases t with
    | none => exact List.Pairwise.nil
    | some t => exact rises hw
  have ta : ∀ x, assoc (toLO t) x = lookO t x := fun x => by
    cases t with
    | none => rfl
    | some t => exact (look_toL hw x).symm
  refine rises_eq h1 tor fun x => ?_
  rw [ta, h.look]
  cases e : assoc L x with
  | none =>
    cases e2 : assoc (sortTo L L.length) x with
    | none => rfl
    | some v =>
      have := (h2 _).1 ((assoc_mem h1 x v).1 e2)
      rw [(assoc_once h.once x v).2 this] at e
      cases e
  | some v => exact (assoc_mem h1 x v).2 ((h2 _).2 ((assoc_once h.once x v).1 e))
theorem witL_len (L : PL) (k : Nat) : (witL L k).length ≤ L.length := List.length_filter_le _ _
theorem winL_len (L : PL) (k : Nat) (v : Int) : (winL L k v).length ≤ L.length + 1 := by
  have := witL_len L k
  unfold winL
  simp
  omega
/-- the page's look-up, from the end on -/
def getR (L : PL) (k : Nat) : Option Int := (L.reverse.find? (fun p => p.1 == k)).map (·.2)
theorem getR_assoc {L : PL} (h : Once L) (k : Nat) : getR L k = assoc L k := by
  cases e : assoc L k with
  | none =>
    unfold getR
    rw [List.find?_eq_none.2 (fun p hp e2 => ?_)]
    · rfl
    · rw [List.mem_reverse] at hp
      have e3 : p.1 = k := by simpa using e2
      have := (assoc_once h k p.2).2 (by rw [← e3]; exact hp)
      rw [e] at this
      cases this
  | some v =>
    have hm := (assoc_once h k v).1 e
    unfold getR
    cases f : L.reverse.find? (fun p => p.1 == k) with
    | none =>
      have := List.find?_eq_none.1 f (k, v) (List.mem_reverse.2 hm)
      simp at this
    | some p =>
      have h1 := List.find?_some f
      have h2 := List.mem_reverse.1 (List.mem_of_find?_eq_some f)
      have e3 : p.1 = k := by simpa using h1
      have := (assoc_once h k p.2).2 (by rw [← e3]; exact h2)
      rw [e] at this
      injection this with this
      rw [this]
      rfl
theorem getR_at (L : PL) (k : Nat) (i : Nat) (h : i < L.length) (e : L[i].1 = k) (no : ∀ p ∈ L.drop (i + 1), p.1 ≠ k) : getR L k = some L[i].2 := by
  unfold getR
  have : L = L.take i ++ L[i] :: L.drop (i + 1) := by rw [← List.drop_eq_getElem_cons h, List.take_append_drop]
  obtain ⟨x, hx⟩ : ∃ x, x = L[i] := ⟨_, rfl⟩
  rw [← hx] at this e ⊢
  rw [this, List.reverse_append, List.reverse_cons, List.append_assoc, List.find?_append]
  rw [List.find?_eq_none.2 (fun p hp => by have := no p (List.mem_reverse.1 hp); simpa using this)]
  simp [List.find?, e]
theorem getR_no (L : PL) (k : Nat) (no : ∀ p ∈ L, p.1 ≠ k) : getR L k = none := by
  unfold getR
  rw [List.find?_eq_none.2 (fun p hp => by have := no p (List.mem_reverse.1 hp); simpa using this)]
  rfl
def cellsM (L : PL) : List Go.Value := L.flatMap fun p => [.int .u64 (p.1 : Int), .int .i64 p.2]
theorem cellsM_len (L : PL) : (cellsM L).length = L.length * 2 := by
  induction L with
  | nil => rfl
  | cons p L ih => show (_ :: _ :: cellsM L).length = _; simp [ih]; omega
theorem cellsM_app (A B : PL) : cellsM (A ++ B) = cellsM A ++ cellsM B := List.flatMap_append
theorem cellsM_get (L : PL) (k : Nat) (h : k < L.length) : (cellsM L)[k * 2]? = some (.int .u64 (L[k].1 : Int)) ∧ (cellsM L)[k * 2 + 1]? = some (.int .i64 L[k].2) := by
  induction L generalizing k with
  | nil => simp at h
  | cons p L ih =>
    have e : cellsM (p :: L) = .int .u64 (p.1 : Int) :: .int .i64 p.2 :: cellsM L := rfl
    rw [e]
    cases k with
    | zero => simp
    | succ k =>
      have := ih k (by simp at h; omega)
      rw [show (k + 1) * 2 = k * 2 + 2 by omega]
      simpa using this
theorem cellsM_take (L : PL) (n : Nat) : (cellsM L).take (n * 2) = cellsM (L.take n) := by
  induction L generalizing n with
  | nil => simp [cellsM]
  | cons p L ih =>
    have e : cellsM (p :: L) = .int .u64 (p.1 : Int) :: .int .i64 p.2 :: cellsM L := rfl
    cases n with
    | zero => simp [cellsM]
    | succ n => rw [e, show (n + 1) * 2 = n * 2 + 1 + 1 by omega]; simp only [List.take_succ_cons, ih]; rfl
theorem cellsM_drop (L : PL) (n : Nat) : (cellsM L).drop (n * 2) = cellsM (L.drop n) := by
  induction L generalizing n with
  | nil => simp [cellsM]
  | cons p L ih =>
    have e : cellsM (p :: L) = .int .u64 (p.1 : Int) :: .int .i64 p.2 :: cellsM L := rfl
    cases n with
    | zero => simp
    | succ n => rw [e, show (n + 1) * 2 = n * 2 + 1 + 1 by omega]; simp only [List.drop_succ_cons, ih]
theorem cellsM_one (L : PL) : ∀ u ∈ cellsM L, u.oneCell' = true := fun u hu => by
  obtain ⟨p, _, hp⟩ := List.mem_flatMap.1 hu
  simp only [List.mem_cons, List.not_mem_nil, or_false] at hp
  rcases hp with rfl | rfl <;> rfl
end GrS

namespace Go.Proofs.Ytnpgpbcpgniloaa
open Go.RowKit GrS

def SlM (W : World) (v : Value) (L : PL) : Prop := SlAt W v 2 L.length (cellsM L)
theorem SlM.below {W U : World} {v : Value} {L : PL} (h : SlM W v L) (k : Below W.heap.size W U) : SlM U v L := SlAt.below h k
theorem SlM.at {W : World} {a : Addr} {n c : Nat} {L : PL} (h : SlM W (.slice (some a) n c) L) (k : Nat) (hk : k < L.length) : W.cell? (a.add (k * 2)) = some (.int .u64 (L[k].1 : Int)) ∧ W.cell? ⟨(a.add (k * 2)).block, (a.add (k * 2)).off + 1, none⟩ = some (.int .i64 L[k].2) := by
  obtain ⟨_, ⟨e, _⟩ | ⟨b, cap, e, _, _, hx⟩⟩ := h
  · cases e
  · injection e with e1 e2 e3
    injection e1 with e1
    subst e1
    obtain ⟨g0, g1⟩ := cellsM_get L k hk
    have hr : (⟨(a.add (k * 2)).block, (a.add (k * 2)).off + 1, none⟩ : Addr) = a.add (k * 2 + 1) := by
      rw [← add_add]
      obtain ⟨x, hx⟩ : ∃ x, x = a.add (k * 2) := ⟨_, rfl⟩
      rw [← hx]
      unfold Addr.add
      rw [if_neg (by omega)]
    exact ⟨hx _ _ g0, by rw [hr]; exact hx _ _ g1⟩
theorem SlM.len {W : World} {a : Option Addr} {n c : Nat} {L : PL} (h : SlM W (.slice a n c) L) : n = L.length := by
  obtain ⟨_, ⟨e, h0⟩ | ⟨b, cap, e, _⟩⟩ := h
  · injection e with e1 e2 e3; omega
  · injection e with e1 e2 e3
theorem SlM.addr {W : World} {p : Option Addr} {n c : Nat} {L : PL} (h : SlM W (.slice p n c) L) (hn : 0 < n) : ∃ a, p = some a := by
  obtain ⟨_, ⟨e, h0⟩ | ⟨a, cp, e, _⟩⟩ := h
  · injection e with e1 e2 e3
    omega
  · injection e with e1 e2 e3
    exact ⟨a, e1⟩
theorem pbytes : (Try.prog.info? 90).map (fun i => (i.zero, i.size, i.bytes)) = some (some (.agg #[.int .u64 0, .int .i64 0]), 2, 16) := by kernel_rfl

set_option maxHeartbeats 3200000 in
theorem pget_any (v : Value) (L : PL) (x : Nat) (w : World) (h : SlM w v L) (hn : L.length ≤ 1000000) :
    Calls Try.prog 34 #[v, .int .u64 (x : Int)] w fun e w' => e = .returned (MI.getV (getR L x)) ∧ Below w.heap.size w w' := by
  obtain ⟨p, n, c, rfl⟩ := SlAt.form h
  have HN := Lib.hid h.len
  have HS := Lib.hid h
  have q9 : (n : Int) ≤ 1000000 := by have := h.len; omega
  clear h hn
  go_enter Try.func34, Try.ntmps34
  go_wp2_with fail
  go_loopw [6] (fun i wr => ∃ k : Nat, k ≤ n ∧ i = .int .i64 ((k : Int) - 1) ∧ (∀ p ∈ L.drop k, p.1 ≠ x) ∧ Below w.heap.size w wr) (fun i _ => (intOf i + 1).toNat)
  case atStart => exact ⟨n, Nat.le_refl _, by go_num, fun p hp => by rw [HN.out, List.drop_length] at hp; simp at hp, Below.refl _ _⟩
  case round =>
    obtain ⟨k, hk, rfl, hno, hb⟩ := hrel
    have NO := Lib.hid hno
    have HB := Lib.hid hb
    clear hno hb
    cases k with
    | zero =>
      have R := Lib.hid (getR_no L x (by simpa using NO.out))
      have K1 := Lib.hid (show (((0 : Nat) : Int) - 1) = -1 from rfl)
      rw [K1.out]
      have d0 : decide ((0 : Int) ≤ -1) = false := by decide
      go_wp2
      exact bodyPost_ret (v := .tuple #[.int .i64 0, .bool false]) (by simp [results, Try.results34, go_sem, *]) rfl ⟨by rw [R.out]; rfl, HB.out⟩
    | succ k =>
      have lk : k < L.length := by have := HN.out; omega
      obtain ⟨a, rfl⟩ := SlM.addr HS.out (by omega)
      obtain ⟨y0, y1⟩ := (HS.out.below HB.out).at k lk
      have K1 := Lib.hid (show (((k + 1 : Nat) : Int) - 1) = (k : Int) by omega)
      have R := Lib.hid (fun e no => getR_at L x k lk e no)
      have D := Lib.hid (show L.drop k = L[k] :: L.drop (k + 1) from List.drop_eq_getElem_cons lk)
      obtain ⟨⟨p0, p1⟩, hp⟩ : ∃ p, p = L[k] := ⟨_, rfl⟩
      rw [← hp] at y0 y1 R D
      simp only at y0 y1 R
      clear hp lk
      rw [K1.out]
      have i0 : (0 : Int) ≤ (k : Int) := by omega
      have i1 : (k : Int) < (n : Int) := by omega
      by_cases ce : p0 = x
      · have cb : ((p0 : Int) == (x : Int)) = true := by simp [ce]
        have E := Lib.hid (R.out ce NO.out)
        subst ce
        clear R
        go_wp2
        exact bodyPost_ret (v := .tuple #[.int .i64 p1, .bool true]) (by simp [results, Try.results34, go_sem, *]) rfl ⟨by rw [E.out]; rfl, HB.out⟩
      · have cb : ((p0 : Int) == (x : Int)) = false := by simp; omega
        have NX := Lib.hid (show ∀ p ∈ L.drop k, p.1 ≠ x from fun p hp => by rw [D.out] at hp; rcases List.mem_cons.1 hp with rfl | hp; exact ce; exact NO.out p hp)
        clear ce
        go_wp2
        go_roundw
        case rel => exact ⟨k, by omega, rfl, NX.out, HB.out⟩
        case measure => first | (simp [intOf]; done) | (simp [intOf]; omega)

set_option maxRecDepth 100000 in
set_option maxHeartbeats 6400000 in
theorem pwithout_any (v : Value) (L : PL) (x : Nat) (w : World) (h : SlM w v L) (hn : L.length ≤ 1000) :
    Calls Try.prog 39 #[v, .int .u64 (x : Int)] w fun e w' => ∃ v2, e = .returned v2 ∧ w'.ownsRow w.heap.size 90 2 v2 (witL L x).length (cellsM (witL L x)) ∧ Below w.heap.size w w' := by
  obtain ⟨i0, hi, hz0, hz1, hz2⟩ := info_parts pbytes
  obtain ⟨p, n, c, rfl⟩ := SlAt.form h
  have HN := Lib.hid h.len
  have HS := Lib.hid h
  have q9 : (n : Int) ≤ 1000 := by have := h.len; omega
  clear h hn
  go_enter Try.func39, Try.ntmps39
  go_wp2_with fail
  go_loopw [5, 6] (fun ov i wr => ∃ j : Nat, j ≤ n ∧ i = .int .i64 (j : Int) ∧ wr.ownsRow w.heap.size 90 2 ov (witL (L.take j) x).length (cellsM (witL (L.take j) x)) ∧ Below w.heap.size w wr) (fun _ i _ => n - (intOf i).toNat)
  case atStart => exact ⟨0, by omega, rfl, World.ownsRow_nil _ _ _ _, Below.refl _ _⟩
  case round =>
    obtain ⟨j, hj, rfl, hown, hb⟩ := hrel
    have HO := Lib.hid hown
    have HB := Lib.hid hb
    clear hown hb
    by_cases cj : j < n
    · have lj : j < L.length := by have := HN.out; omega
      obtain ⟨a, rfl⟩ := SlM.addr HS.out (by omega)
      obtain ⟨y0, y1⟩ := (HS.out.below HB.out).at j lj
      have TK := Lib.hid (show witL (L.take (j + 1)) x = witL (L.take j) x ++ witL [L[j]] x by rw [List.take_succ_eq_append_getElem lj]; unfold witL; rw [List.filter_append])
      have WL := Lib.hid (show (witL (L.take j) x).length ≤ j from Nat.le_trans (witL_len _ _) (List.length_take_le _ _))
      obtain ⟨⟨p0, p1⟩, hp⟩ : ∃ p, p = L[j] := ⟨_, rfl⟩
      rw [← hp] at y0 y1 TK
      simp only at y0 y1
      clear hp lj
      have j0 : (0 : Int) ≤ (j : Int) := by omega
      have j1 : (j : Int) < (n : Int) := by omega
      have dj : decide ((j : Int) < (n : Int)) = true := by simpa using j1
      by_cases ce : p0 = x
      · have cb : ((p0 : Int) != (x : Int)) = false := by simp [ce]
        have E := Lib.hid (show witL (L.take (j + 1)) x = witL (L.take j) x by rw [TK.out]; simp [witL, ce])
        clear ce
        go_wp2
        go_roundw
        case rel => exact ⟨j + 1, by omega, by go_num, by rw [E.out]; exact HO.out, HB.out⟩
        case measure => simp [intOf]; omega
      · have cb : ((p0 : Int) != (x : Int)) = true := by simp; omega
        have E := Lib.hid (show witL (L.take (j + 1)) x = witL (L.take j) x ++ [(p0, p1)] by rw [TK.out]; simp [witL, ce])
        clear ce
        obtain ⟨q, hq⟩ : ∃ q, q = (witL (L.take j) x).length := ⟨_, rfl⟩
        have QL := Lib.hid hq
        rw [← hq] at HO WL
        have wl : q ≤ j := WL.out
        clear hq
        have NW := Lib.hid (fun T => app_two wr (.int .u64 (p0 : Int)) (.int .i64 p1) T)
        have N1 := Lib.hid (show ∀ u ∈ [Value.int .u64 (p0 : Int), .int .i64 p1], u.oneCell' = true by simp [Value.oneCell'])
        have S5 := Lib.hid (show ∀ o : Obj, w.heap.size ≤ (wr.alloc o).heap.size from fun o => by have := HB.out.size; simp only [World.size_alloc]; omega)
        go_wp2_with (at_builtin; refine wpList_append_own _ rfl (.tmp 20) (.tmp 25) 70 rfl w.heap.size 90 i0 (.agg #[.int .u64 0, .int .i64 0]) 2 16 Try.underlying70 hi hz0 hz1 hz2 rfl (by decide) _ _ _ rfl (HO.out.alloc _) ⟨wr.heap.size, 0, none⟩ 1 1 [.int .u64 (p0 : Int), .int .i64 p1] rfl rfl (NW.out _) N1.out (by unfold maxLen; omega) (by omega) (S5.out _) ?_)
        intro v2 w5 h2 hg2 _
        have O5 := Lib.hid (show w5.ownsRow w.heap.size 90 2 v2 (witL (L.take (j + 1)) x).length (cellsM (witL (L.take (j + 1)) x)) by rw [E.out, cellsM_app, List.length_append, ← QL.out]; exact h2)
        have B5 := Lib.hid (show Below w.heap.size w w5 from (KB.alloc HB.out _).grown hg2 (S5.out _) (fun k hk => (HO.out.lt k hk).1))
        clear h2 hg2 NW N1 S5
        go_wp2
        go_roundw
        case rel => exact ⟨j + 1, by omega, by go_num, O5.out, B5.out⟩
        case measure => simp [intOf]; omega
    · obtain rfl : n = j := by omega
      have E := Lib.hid (show L.take n = L by rw [HN.out, List.take_length])
      have dj : decide ((n : Int) < (n : Int)) = false := by simp
      go_wp2
      go_ret
      exact ⟨_, rfl, by have := HO.out; rw [E.out] at this; exact this, HB.out⟩

set_option maxRecDepth 100000 in
set_option maxHeartbeats 6400000 in
theorem pwith_any (v : Value) (L : PL) (x : Nat) (y : Int) (w : World) (h : SlM w v L) (hn : L.length ≤ 1000) :
    Calls Try.prog 38 #[v, .int .u64 (x : Int), .int .i64 y] w fun e w' => ∃ v2, e = .returned v2 ∧ w'.ownsRow w.heap.size 90 2 v2 (winL L x y).length (cellsM (winL L x y)) ∧ Below w.heap.size w w' := by
  obtain ⟨i0, hi, hz0, hz1, hz2⟩ := info_parts pbytes
  have WO := Lib.hid (pwithout_any v L x w h hn)
  have WL := Lib.hid (show (witL L x).length ≤ 1000 from Nat.le_trans (witL_len _ _) hn)
  clear h hn
  go_enter Try.func38, Try.ntmps38
  go_wp2_with fail
  refine WO.out.mono ?_
  rintro e w1 ⟨v1, rfl, ow, g⟩
  obtain ⟨q, hq⟩ : ∃ q, q = (witL L x).length := ⟨_, rfl⟩
  have QL := Lib.hid hq
  rw [← hq] at WL ow
  have wl : q ≤ 1000 := WL.out
  have HO := Lib.hid ow
  have HB := Lib.hid g
  clear hq ow g WO
  have NW := Lib.hid (fun T => app_two w1 (.int .u64 (x : Int)) (.int .i64 y) T)
  have N1 := Lib.hid (show ∀ u ∈ [Value.int .u64 (x : Int), .int .i64 y], u.oneCell' = true by simp [Value.oneCell'])
  have S5 := Lib.hid (show ∀ o : Obj, w.heap.size ≤ (w1.alloc o).heap.size from fun o => by have := HB.out.size; simp only [World.size_alloc]; omega)
  go_wp2_with (at_builtin; refine wpList_append_own _ rfl (.tmp 9) (.tmp 13) 70 rfl w.heap.size 90 i0 (.agg #[.int .u64 0, .int .i64 0]) 2 16 Try.underlying70 hi hz0 hz1 hz2 rfl (by decide) _ _ _ rfl (HO.out.alloc _) ⟨w1.heap.size, 0, none⟩ 1 1 [.int .u64 (x : Int), .int .i64 y] rfl rfl (NW.out _) N1.out (by unfold maxLen; omega) (by omega) (S5.out _) ?_)
  intro v2 w5 h2 hg2 _
  have O5 := Lib.hid (show w5.ownsRow w.heap.size 90 2 v2 (winL L x y).length (cellsM (winL L x y)) by unfold winL; rw [cellsM_app, List.length_append, ← QL.out]; exact h2)
  have B5 := Lib.hid (show Below w.heap.size w w5 from (KB.alloc HB.out _).grown hg2 (S5.out _) (fun k hk => (HO.out.lt k hk).1))
  clear h2 hg2 NW N1 S5
  go_wp2
  go_ret
  exact ⟨_, rfl, O5.out, B5.out⟩
end Go.Proofs.Ytnpgpbcpgniloaa

namespace Go.Proofs.Ytnpgpbcpgniloaa
open Go.RowKit GrS

theorem own_cap3 {w : World} {base : Nat} {e : TypeId} {K g cap n : Nat} {xs : List Value} (h : w.ownsRow base e K (.slice (some ⟨g, 0, none⟩) n cap) n xs) : n ≤ cap ∧ cap ≤ maxLen ∧ base ≤ g := by
  obtain ⟨h1, ⟨h2, _⟩ | ⟨g', c', cur, e1, hb, hg, hn, hc, hs, ht⟩⟩ := h
  · cases h2
  · injection e1 with a1 a2 a3
    injection a1 with a1
    injection a1 with a1
    subst a1 a3
    exact ⟨hn, hc, hb⟩
theorem own_cells2 {w : World} {base : Nat} {e : TypeId} {K g cap n : Nat} {xs : List Value} (h : w.ownsRow base e K (.slice (some ⟨g, 0, none⟩) n cap) n xs) : ∀ j u, xs[j]? = some u → w.cell? ⟨g, j, none⟩ = some u := by
  rcases own_open h with ⟨h1, _⟩ | ⟨g', c', e1, _, _, hx⟩
  · cases h1
  · injection e1 with a1 a2 a3
    injection a1 with a1
    injection a1 with a1
    subst a1
    exact hx
theorem own_cut2 {w : World} {base : Nat} {e : TypeId} {K g cap n m : Nat} {xs : List Value} (h : w.ownsRow base e K (.slice (some ⟨g, 0, none⟩) n cap) n xs) (hm : m ≤ n) : w.ownsRow base e K (.slice (some ⟨g, 0, none⟩) m cap) m (xs.take (m * K)) := by
  obtain ⟨h1, ⟨h2, _⟩ | ⟨g', c', cur, e1, hb, hg, hn, hc, hs, ht⟩⟩ := h
  · cases h2
  · injection e1 with a1 a2 a3
    injection a1 with a1
    injection a1 with a1
    subst a1 a3
    have le : m * K ≤ n * K := Nat.mul_le_mul_right K hm
    refine ⟨by rw [List.length_take, h1]; omega, .inr ⟨g, cap, cur, rfl, hb, hg, by omega, hc, hs, ?_⟩⟩
    rw [← ht, List.take_take]
    congr 1
    omega

set_option maxRecDepth 100000 in
set_option maxHeartbeats 12800000 in
theorem sorted_any (v : Value) (L : PL) (w : World) (h : SlM w v L) (hn : L.length ≤ 1000) :
    Calls Try.prog 40 #[v] w fun e w' => ∃ v2, e = .returned v2 ∧ w'.ownsRow w.heap.size 90 2 v2 L.length (cellsM (sortTo L L.length)) ∧ Below w.heap.size w w' := by
  obtain ⟨i0, hi, hz0, hz1, hz2⟩ := info_parts pbytes
  obtain ⟨pv, n, c, rfl⟩ := SlAt.form h
  have HN := Lib.hid h.len
  have HS := Lib.hid h
  have q9 : n ≤ 1000 := by have := h.len; omega
  clear h hn
  go_enter Try.func40, Try.ntmps40
  go_wp2_with fail
  go_loopw [3, 4] (fun ov i wr => ∃ k : Nat, k ≤ n ∧ i = .int .i64 (k : Int) ∧ wr.ownsRow w.heap.size 90 2 ov (sortTo L k).length (cellsM (sortTo L k)) ∧ Below w.heap.size w wr) (fun _ i _ => n - (intOf i).toNat)
  case atStart => exact ⟨0, by omega, rfl, World.ownsRow_nil _ _ _ _, Below.refl _ _⟩
  case round =>
    obtain ⟨k, hk, rfl, hown, hb⟩ := hrel
    have HO := Lib.hid hown
    have HB := Lib.hid hb
    clear hown hb
    by_cases ck : k < n
    · have lk : k < L.length := by have := HN.out; omega
      obtain ⟨a, rfl⟩ := SlM.addr HS.out (by omega)
      have XW := Lib.hid (fun (U : World) (b : Below wr.heap.size wr U) => (HS.out.below (HB.out.trans (b.mono HB.out.size))).at k lk)
      have SC := Lib.hid (sortTo_succ L k lk)
      have CL := Lib.hid (show (sortTo L k).length = k from sortTo_len L k (by omega))
      obtain ⟨⟨p0, p1⟩, hp⟩ : ∃ p, p = L[k] := ⟨_, rfl⟩
      rw [← hp] at XW SC
      simp only at XW
      obtain ⟨out, hout⟩ : ∃ o, o = sortTo L k := ⟨_, rfl⟩
      rw [← hout] at SC HO CL
      clear hp hout lk
      have i0' : (0 : Int) ≤ (k : Int) := by omega
      have i1 : (k : Int) < (n : Int) := by omega
      have dk : decide ((k : Int) < (n : Int)) = true := by simpa using i1
      rcases own_open HO.out with ⟨rfl, h0⟩ | ⟨g, cap, rfl, hg, hgl, hcells⟩
      · have OUT := Lib.hid (show out = [] from List.eq_nil_of_length_eq_zero h0)
        have PO := Lib.hid (show posM out p0 = 0 by rw [OUT.out]; rfl)
        have HM := Lib.hid (show 0 = out.length by rw [OUT.out]; rfl)
        clear h0
        go_wp2_with fail
        refine wp_loop_rounds 2 ?_
        rw [rounds_succ]
        go_wp2_with fail
        refine wp_region_wb (by kernel_rfl) (by kernel_rfl) ?_
        repeat (go_big_quiet_step (fail))
        refine wpQuiet_nil ?_
        rintro _ ⟨y, rfl⟩
        have KV := Lib.hid (show Below w.heap.size w y.at from HB.out.trans (y.bel.mono HB.out.size))
        have HO3 := Lib.hid (show y.at.ownsRow w.heap.size 90 2 (.slice none 0 0) out.length (cellsM out) from own_below HO.out y.bel)
        have XX := Lib.hid (fun (U : World) (k : Below y.at.heap.size y.at U) => XW.out U (y.bel.trans (k.mono y.bel.size)))
        obtain ⟨V, hV⟩ : ∃ V, V = y.at := ⟨_, rfl⟩
        rw [← hV] at KV HO3 XX
        rw [← hV]
        clear hV XW
        have B4 := Lib.hid (show Below V.heap.size V (V.alloc (.cells #[] 90)) from KB.alloc (Below.refl _ _) _)
        have OR := Lib.hid (show (V.alloc (.cells #[] 90)).ownsRow V.heap.size 90 2 (.slice (some ⟨V.heap.size, 0, none⟩) 0 0) 0 (cellsM (out.drop 0)) by rw [OUT.out]; exact World.ownsRow_made V #[] 0 (Nat.le_refl _) (by unfold maxLen; omega) rfl)
        have OE := Lib.hid (show (V.alloc (.cells #[] 90)).ownsRow V.heap.size 90 2 (.slice (some ⟨V.heap.size, 0, none⟩) 0 0) 0 [] from World.ownsRow_made V #[] 0 (Nat.le_refl _) (by unfold maxLen; omega) rfl)
        go_wp2_with (at_builtin; refine wpList_append_own_none rfl (.tmp 32) (.tmp 35) 70 rfl V.heap.size 90 i0 2 Try.underlying70 hi _ _ _ rfl OE.out rfl ?_)
        have N1 := Lib.hid (cellsM_one (out.drop 0))
        have NL := Lib.hid (show (cellsM (out.drop 0)).length = 0 * 2 by rw [OUT.out]; rfl)
        obtain ⟨v1, hv1⟩ : ∃ v1, v1 = Value.slice (some ⟨V.heap.size, 0, none⟩) 0 0 := ⟨_, rfl⟩
        obtain ⟨w4, hw4⟩ : ∃ w4, w4 = V.alloc (.cells #[] 90) := ⟨_, rfl⟩
        rw [← hv1, ← hw4] at OR
        rw [← hw4] at B4
        rw [← hv1, ← hw4]
        clear hv1 hw4 OE
        have OK := Lib.hid (World.ownsRow_nil w4 w.heap.size 90 2)
        have s4 := Lib.hid (show V.heap.size ≤ w4.heap.size from B4.out.size)
        have vw := Lib.hid (show w.heap.size ≤ V.heap.size from KV.out.size)
        go_wp2_with fail
        have k3 := Lib.hid (show ∀ u ∈ [Value.int .u64 (p0 : Int), .int .i64 p1], u.oneCell' = true by simp [Value.oneCell'])
        have k2 := Lib.hid (fun T => app_two w4.drew (.int .u64 (p0 : Int)) (.int .i64 p1) T)
        have k4 := Lib.hid (show 0 + 1 ≤ maxLen by unfold maxLen; omega)
        have k5 := Lib.hid (show (0 + 1) * 16 ≤ 140737488355328 by omega)
        have k6 := Lib.hid (show ∀ o : Obj, w.heap.size ≤ (w4.drew.alloc o).heap.size from fun o => by have := s4.out; have := vw.out; simp; omega)
        have k7 := Lib.hid (fun o => World.ownsRow.alloc (w := w4.drew) OK.out o)
        have K0 := Lib.hid (XX.out w4.drew B4.out.drew)
        skip
        have K9 := Lib.hid (fun (o : Obj) (w5 : World) (hg : (w4.drew.alloc o).grownBy w5 (Value.ownBlock (.slice none 0 0))) => (((Below.refl w.heap.size w4).drew.alloc (by have := s4.out; have := vw.out; simp; omega) o).grown hg (k6.out o) (fun k hk => (OK.out.lt k hk).1) : Below w.heap.size w4 w5))
        have K8 := Lib.hid (fun (o : Obj) (w5 : World) (hg : (w4.drew.alloc o).grownBy w5 (Value.ownBlock (.slice none 0 0))) => (own_keep OR.out (fun r hr hl => (hg.block r (by simp; have : r < w4.heap.size := hl; omega) (by intro e; cases e)).trans (Below.heap_alloc _ _ _ hl)) : w5.ownsRow V.heap.size 90 2 v1 0 (cellsM (out.drop 0))))
        have z01 := XX.out w4 B4.out
        have z0 := z01.1
        have z1 := z01.2
        clear z01
        go_region_law ((refine step_append_lies _ (by rfl) (.tmp 39) (.tmp 44) 70 (by rfl) w.heap.size 90 i0 (.agg #[.int .u64 0, .int .i64 0]) 2 16 Try.underlying70 hi hz0 hz1 hz2 (by rfl) (by decide) (.slice none 0 0) 0 [] (by rfl) (k7.out _) ⟨w4.heap.size, 0, none⟩ 1 1 [.int .u64 (p0 : Int), .int .i64 p1] (by rfl) (by rfl) (k2.out _) k3.out (by omega) k4.out k5.out (k6.out _) _ (by rfl) ?_; intro gq cp2 w5 hown hgrow hat hlt; have O5 := Lib.hid hown; have B5 := Lib.hid (K9.out _ _ hgrow); have OR5 := Lib.hid (K8.out _ _ hgrow); clear hown hgrow hat hlt z0 z1))
        have IE := Lib.hid (show sortTo L (k + 1) = out.take 0 ++ [(p0, p1)] ++ out.drop 0 by rw [SC.out]; unfold insM; rw [PO.out])
        have O5 := Lib.hid (show w5.ownsRow w.heap.size 90 2 (.slice (some ⟨gq, 0, none⟩) (0 + 1) cp2) (0 + 1) (cellsM (out.take 0 ++ [(p0, p1)])) by rw [cellsM_app]; have := O5.out; rw [OUT.out]; exact this)
        have KW := Lib.hid (show Below w.heap.size w w5 from KV.out.trans ((B4.out.mono vw.out).trans B5.out))
        have s6 := Lib.hid (show w.heap.size ≤ w5.heap.size from KW.out.size)
        clear k2 k3 k4 k5 k6 k7 K0 K8 K9 OR B5
        rcases own_open OR5.out with ⟨rfl, hz⟩ | ⟨r, rc, rfl, hr, hrl, hrc⟩
        · have DE2 := Lib.hid (show out.drop 0 = [] from List.eq_nil_of_length_eq_zero (by have := OR5.out.1; rw [cellsM_len] at this; omega))
          go_wp2_with (at_builtin; refine wpList_append_own_none rfl (.tmp 46) (.tmp 47) 70 rfl w.heap.size 90 i0 2 Try.underlying70 hi _ _ _ rfl O5.out rfl ?_)
          go_wp2
          go_roundw
          case rel => exact ⟨k + 1, by omega, by go_num, by rw [IE.out, DE2.out, List.append_nil, show (out.take 0 ++ [(p0, p1)]).length = 0 + 1 by first | (rw [OUT.out]; rfl) | (simp; have := HM.out; omega)]; exact O5.out, KW.out⟩
          case measure => first | (simp [intOf]; done) | (simp [intOf]; omega)
        · have HC := Lib.hid (show ∀ i u, (cellsM (out.drop 0))[i]? = some u → w5.cell? ((⟨r, 0, none⟩ : Addr).add i) = some u from fun i u hi => by rw [show (⟨r, 0, none⟩ : Addr).add i = ⟨r, i, none⟩ by unfold Addr.add; split <;> simp_all]; exact hrc i u hi)
          clear hr hrl hrc
          go_wp2_with (at_builtin; refine wpList_append_own _ rfl (.tmp 46) (.tmp 47) 70 rfl w.heap.size 90 i0 (.agg #[.int .u64 0, .int .i64 0]) 2 16 Try.underlying70 hi hz0 hz1 hz2 rfl (by decide) _ _ _ rfl O5.out ⟨r, 0, none⟩ 0 rc (cellsM (out.drop 0)) rfl NL.out HC.out N1.out (by unfold maxLen; omega) (by omega) s6.out ?_)
          intro v3 w6 h3 hg3 _
          have O6 := Lib.hid (show w6.ownsRow w.heap.size 90 2 v3 (0 + 1 + 0) (cellsM (out.take 0 ++ [(p0, p1)] ++ out.drop 0)) by rw [cellsM_app]; exact h3)
          have B6 := Lib.hid (show Below w.heap.size w5 w6 from (Below.refl _ _).grown hg3 s6.out (fun k hk => (O5.out.lt k hk).1))
          clear h3 hg3
          go_wp2
          go_roundw
          case rel => exact ⟨k + 1, by omega, by go_num, by rw [IE.out, show (out.take 0 ++ [(p0, p1)] ++ out.drop 0).length = 0 + 1 + 0 by first | (rw [OUT.out]; rfl) | (simp; have := HM.out; omega)]; exact O6.out, KW.out.trans B6.out⟩
          case measure => first | (simp [intOf]; done) | (simp [intOf]; omega)
      · obtain ⟨m, hm⟩ : ∃ m, m = out.length := ⟨_, rfl⟩
        rw [← hm] at HO ⊢
        have HM := Lib.hid hm
        have mb : m ≤ 1000 := by have := CL.out; omega
        clear hm hcells hg hgl
        go_wp2_with fail
        go_loopw [5] (fun i wr2 => ∃ j : Nat, j ≤ m ∧ i = .int .i64 (j : Int) ∧ (∀ q (hq : q < out.length), q < j → out[q].1 < p0) ∧ Below wr.heap.size wr wr2) (fun i _ => m - (intOf i).toNat)
        case atStart => exact ⟨0, by omega, rfl, fun q hq h => absurd h (by omega), Below.refl _ _⟩
        case round =>

          obtain ⟨j, hj, rfl, hlt, hb3⟩ := hrel
          have LT := Lib.hid hlt
          have B3 := Lib.hid hb3
          have HO3k := Lib.hid (own_below HO.out B3.out)
          have xk := fun y : Wb wr => XW.out y.at (B3.out.trans (y.bel.mono B3.out.size))
          have x0 := fun y : Wb wr => (xk y).1
          clear hlt hb3 xk
          have d1 := q9
          by_cases cj : j < m
          · have lj : j < out.length := by have := HM.out; omega
            have cj0 : ∀ y : Wb wr, y.at.cell? ⟨g, j * 2, none⟩ = some (.int .u64 (out[j].1 : Int)) := fun y => own_cells2 (own_below HO3k.out y.bel) (j * 2) _ (cellsM_get out j lj).1
            have PJ := Lib.hid (fun e => posM_eq out p0 j (Nat.le_of_lt lj) (fun q hq => LT.out q (by omega) hq) e)
            have YL := Lib.hid (show out[j].1 < p0 → ∀ q (hq : q < out.length), q < j + 1 → out[q].1 < p0 from fun h q hq h2 => by
              by_cases c : q = j
              · subst c; exact h
              · exact LT.out q hq (by omega))
            have YN := Lib.hid (show ¬ out[j].1 < p0 → ∀ h : j < out.length, ¬ (out[j]).1 < p0 from fun h _ => h)
            obtain ⟨yy, hy⟩ : ∃ p, p = out[j].1 := ⟨_, rfl⟩
            rw [← hy] at cj0 YL YN
            clear hy
            have i2 : (0 : Int) ≤ (j : Int) := by omega
            have i3 : (j : Int) < (m : Int) := by omega
            have e1 : decide ((j : Int) < (m : Int)) = true := by simpa using i3
            have capm := (own_cap3 HO3k.out).1
            have i4 : (m : Int) ≤ (cap : Int) := by omega
            by_cases cy : yy < p0
            · have ey : decide (yy < p0) = true := decide_eq_true cy
              have YY := Lib.hid (YL.out cy)
              clear cy lj capm
              go_wp2_with fail
              refine wp_region_wb (by kernel_rfl) (by kernel_rfl) ?_
              repeat (go_big_quiet_step (fail))
              refine wpQuiet_nil ?_
              rintro _ ⟨y, rfl⟩
              go_wp2
              go_roundw
              case rel => exact ⟨j + 1, by omega, by go_num, YY.out, B3.out.trans (y.bel.mono B3.out.size)⟩
              case measure => first | (simp [intOf]; done) | (simp [intOf]; omega)
            · have ey : decide (yy < p0) = false := decide_eq_false cy
              have PO := Lib.hid (PJ.out (YN.out cy))
              have ncj : ¬ cap = j := by omega
              clear cy lj capm PJ YL YN LT
              go_wp2_with fail
              refine wp_region_wb (by kernel_rfl) (by kernel_rfl) ?_
              repeat (go_big_quiet_step (fail))
              refine wpQuiet_nil ?_
              rintro _ ⟨y, rfl⟩
              have KV := Lib.hid (show Below w.heap.size w y.at from HB.out.trans ((B3.out.trans (y.bel.mono B3.out.size)).mono HB.out.size))
              have HO3 := Lib.hid (own_below HO3k.out y.bel)
              have XX := Lib.hid (fun (U : World) (k : Below y.at.heap.size y.at U) => XW.out U (B3.out.trans ((y.bel.trans (k.mono y.bel.size)).mono B3.out.size)))
              obtain ⟨V, hV⟩ : ∃ V, V = y.at := ⟨_, rfl⟩
              rw [← hV] at KV HO3 XX
              rw [← hV]
              clear hV XW
              have OC := Lib.hid (own_cap3 HO3.out)
              have q1 : (0 : Int) ≤ (j : Int) := by omega
              have q2 : (j : Int) ≤ (m : Int) := by omega
              have q3 : (m : Int) ≤ (cap : Int) := by have := OC.out.1; omega
              have q4 : (j : Int) ≤ (cap : Int) := by omega
              have g2 := Lib.hid (show g < V.heap.size from (HO3.out.lt g rfl).2)
              have OE := Lib.hid (show (V.alloc (.cells #[] 90)).ownsRow V.heap.size 90 2 (.slice (some ⟨V.heap.size, 0, none⟩) 0 0) 0 [] from World.ownsRow_made V #[] 0 (Nat.le_refl _) (by unfold maxLen; omega) rfl)
              have NW := Lib.hid (show ∀ i u, (cellsM (out.drop j))[i]? = some u → (V.alloc (.cells #[] 90)).cell? ((⟨g, j * 2, none⟩ : Addr).add i) = some u from fun i u hi => by
                rw [show (⟨g, j * 2, none⟩ : Addr).add i = ⟨g, j * 2 + i, none⟩ by unfold Addr.add; split <;> simp_all]
                rw [← cellsM_drop, List.getElem?_drop] at hi
                exact (own_cells2 (own_below HO3.out (KB.alloc (Below.refl _ _) _))) _ _ hi)
              have NL := Lib.hid (show (cellsM (out.drop j)).length = (m - j) * 2 by rw [cellsM_len, List.length_drop, ← HM.out])
              have N1 := Lib.hid (cellsM_one (out.drop j))
              have s1 := Lib.hid (show ∀ o : Obj, V.heap.size ≤ (V.alloc o).heap.size from fun o => by simp)
              go_wp2_with (at_builtin; refine wpList_append_own _ rfl (.tmp 32) (.tmp 35) 70 rfl V.heap.size 90 i0 (.agg #[.int .u64 0, .int .i64 0]) 2 16 Try.underlying70 hi hz0 hz1 hz2 rfl (by decide) _ _ _ rfl OE.out ⟨g, j * 2, none⟩ (m - j) (cap - j) (cellsM (out.drop j)) rfl NL.out NW.out N1.out (by unfold maxLen; omega) (by omega) (s1.out _) ?_)
              intro v1 w4 h1 hg1 _
              have OR := Lib.hid (show w4.ownsRow V.heap.size 90 2 v1 (m - j) (cellsM (out.drop j)) by simpa using h1)
              have B4 := Lib.hid (show Below V.heap.size V w4 from ((Below.refl _ _).alloc (Nat.le_refl _) _).grown hg1 (by simp) (fun k hk => by cases hk; exact Nat.le_refl _))
              clear h1 hg1 OE NW
              have HO4 := Lib.hid (own_below HO3.out B4.out)
              have OK := Lib.hid (own_cut2 HO4.out (show j ≤ m by omega))
              rw [cellsM_take] at OK
              have s4 := Lib.hid (show V.heap.size ≤ w4.heap.size from B4.out.size)
              have vw := Lib.hid (show w.heap.size ≤ V.heap.size from KV.out.size)
              go_wp2_with fail
              have k3 := Lib.hid (show ∀ u ∈ [Value.int .u64 (p0 : Int), .int .i64 p1], u.oneCell' = true by simp [Value.oneCell'])
              have k2 := Lib.hid (fun T => app_two w4.drew (.int .u64 (p0 : Int)) (.int .i64 p1) T)
              have k4 := Lib.hid (show j + 1 ≤ maxLen by unfold maxLen; omega)
              have k5 := Lib.hid (show (j + 1) * 16 ≤ 140737488355328 by omega)
              have k6 := Lib.hid (show ∀ o : Obj, w.heap.size ≤ (w4.drew.alloc o).heap.size from fun o => by have := s4.out; have := vw.out; simp; omega)
              have k7 := Lib.hid (fun o => World.ownsRow.alloc (w := w4.drew) OK.out o)
              have K0 := Lib.hid (XX.out w4.drew B4.out.drew)
              skip
              have K9 := Lib.hid (fun (o : Obj) (w5 : World) (hg : (w4.drew.alloc o).grownBy w5 (Value.ownBlock (.slice (some ⟨g, 0, none⟩) j cap))) => (((Below.refl w.heap.size w4).drew.alloc (by have := s4.out; have := vw.out; simp; omega) o).grown hg (k6.out o) (fun k hk => (OK.out.lt k hk).1) : Below w.heap.size w4 w5))
              have K8 := Lib.hid (fun (o : Obj) (w5 : World) (hg : (w4.drew.alloc o).grownBy w5 (Value.ownBlock (.slice (some ⟨g, 0, none⟩) j cap))) => (own_keep OR.out (fun r hr hl => (hg.block r (by simp; have : r < w4.heap.size := hl; omega) (by intro e; injection e with e; have e2 : r = g := e; have := g2.out; omega)).trans (Below.heap_alloc _ _ _ hl)) : w5.ownsRow V.heap.size 90 2 v1 (m - j) (cellsM (out.drop j))))
              have z01 := XX.out w4 B4.out
              have z0 := z01.1
              have z1 := z01.2
              clear z01
              go_region_law ((refine step_append_lies _ (by rfl) (.tmp 39) (.tmp 44) 70 (by rfl) w.heap.size 90 i0 (.agg #[.int .u64 0, .int .i64 0]) 2 16 Try.underlying70 hi hz0 hz1 hz2 (by rfl) (by decide) (.slice (some ⟨g, 0, none⟩) j cap) j (cellsM (out.take j)) (by rfl) (k7.out _) ⟨w4.heap.size, 0, none⟩ 1 1 [.int .u64 (p0 : Int), .int .i64 p1] (by rfl) (by rfl) (k2.out _) k3.out (by omega) k4.out k5.out (k6.out _) _ (by rfl) ?_; intro gq cp2 w5 hown hgrow hat hlt; have O5 := Lib.hid hown; have B5 := Lib.hid (K9.out _ _ hgrow); have OR5 := Lib.hid (K8.out _ _ hgrow); clear hown hgrow hat hlt z0 z1))
              have IE := Lib.hid (show sortTo L (k + 1) = out.take j ++ [(p0, p1)] ++ out.drop j by rw [SC.out]; unfold insM; rw [PO.out])
              have O5 := Lib.hid (show w5.ownsRow w.heap.size 90 2 (.slice (some ⟨gq, 0, none⟩) (j + 1) cp2) (j + 1) (cellsM (out.take j ++ [(p0, p1)])) by rw [cellsM_app]; exact O5.out)
              have KW := Lib.hid (show Below w.heap.size w w5 from KV.out.trans ((B4.out.mono vw.out).trans B5.out))
              have s6 := Lib.hid (show w.heap.size ≤ w5.heap.size from KW.out.size)
              clear k2 k3 k4 k5 k6 k7 K0 K8 K9 OR B5
              rcases own_open OR5.out with ⟨rfl, hz⟩ | ⟨r, rc, rfl, hr, hrl, hrc⟩
              · have DE2 := Lib.hid (show out.drop j = [] from List.eq_nil_of_length_eq_zero (by have := OR5.out.1; rw [cellsM_len] at this; omega))
                go_wp2_with (at_builtin; refine wpList_append_own_none rfl (.tmp 46) (.tmp 47) 70 rfl w.heap.size 90 i0 2 Try.underlying70 hi _ _ _ rfl O5.out rfl ?_)
                go_wp2
                go_roundw
                case rel => exact ⟨k + 1, by omega, by go_num, by rw [IE.out, DE2.out, List.append_nil, show (out.take j ++ [(p0, p1)]).length = j + 1 by first | (rw [OUT.out]; rfl) | (simp; have := HM.out; omega)]; exact O5.out, KW.out⟩
                case measure => first | (simp [intOf]; done) | (simp [intOf]; omega)
              · have HC := Lib.hid (show ∀ i u, (cellsM (out.drop j))[i]? = some u → w5.cell? ((⟨r, 0, none⟩ : Addr).add i) = some u from fun i u hi => by rw [show (⟨r, 0, none⟩ : Addr).add i = ⟨r, i, none⟩ by unfold Addr.add; split <;> simp_all]; exact hrc i u hi)
                clear hr hrl hrc
                go_wp2_with (at_builtin; refine wpList_append_own _ rfl (.tmp 46) (.tmp 47) 70 rfl w.heap.size 90 i0 (.agg #[.int .u64 0, .int .i64 0]) 2 16 Try.underlying70 hi hz0 hz1 hz2 rfl (by decide) _ _ _ rfl O5.out ⟨r, 0, none⟩ (m - j) rc (cellsM (out.drop j)) rfl NL.out HC.out N1.out (by unfold maxLen; omega) (by omega) s6.out ?_)
                intro v3 w6 h3 hg3 _
                have O6 := Lib.hid (show w6.ownsRow w.heap.size 90 2 v3 (j + 1 + (m - j)) (cellsM (out.take j ++ [(p0, p1)] ++ out.drop j)) by rw [cellsM_app]; exact h3)
                have B6 := Lib.hid (show Below w.heap.size w5 w6 from (Below.refl _ _).grown hg3 s6.out (fun k hk => (O5.out.lt k hk).1))
                clear h3 hg3
                go_wp2
                go_roundw
                case rel => exact ⟨k + 1, by omega, by go_num, by rw [IE.out, show (out.take j ++ [(p0, p1)] ++ out.drop j).length = j + 1 + (m - j) by first | (rw [OUT.out]; rfl) | (simp; have := HM.out; omega)]; exact O6.out, KW.out.trans B6.out⟩
                case measure => first | (simp [intOf]; done) | (simp [intOf]; omega)
          · obtain rfl : m = j := by omega
            have PO := Lib.hid (posM_eq out p0 m (by have := HM.out; omega) (fun q hq => LT.out q (by have := HM.out; omega) hq) (fun h => absurd h (by have := HM.out; omega)))
            have e1 : decide ((m : Int) < (m : Int)) = false := by simp
            clear LT
            by_cases ncj : m = cap
            · subst ncj
              go_wp2_with fail
              refine wp_region_wb (by kernel_rfl) (by kernel_rfl) ?_
              repeat (go_big_quiet_step (fail))
              refine wpQuiet_nil ?_
              rintro _ ⟨y, rfl⟩
              have KV := Lib.hid (show Below w.heap.size w y.at from HB.out.trans ((B3.out.trans (y.bel.mono B3.out.size)).mono HB.out.size))
              have HO3 := Lib.hid (own_below HO3k.out y.bel)
              have XX := Lib.hid (fun (U : World) (k : Below y.at.heap.size y.at U) => XW.out U (B3.out.trans ((y.bel.trans (k.mono y.bel.size)).mono B3.out.size)))
              obtain ⟨V, hV⟩ : ∃ V, V = y.at := ⟨_, rfl⟩
              rw [← hV] at KV HO3 XX
              rw [← hV]
              clear hV XW
              have OC := Lib.hid (own_cap3 HO3.out)
              have q1 : (0 : Int) ≤ (m : Int) := by omega
              have q2 : (m : Int) ≤ (m : Int) := by omega
              have q3 : (m : Int) ≤ (m : Int) := by have := OC.out.1; omega
              have q4 : (m : Int) ≤ (m : Int) := by omega
              have g2 := Lib.hid (show g < V.heap.size from (HO3.out.lt g rfl).2)
              have OE := Lib.hid (show (V.alloc (.cells #[] 90)).ownsRow V.heap.size 90 2 (.slice (some ⟨V.heap.size, 0, none⟩) 0 0) 0 [] from World.ownsRow_made V #[] 0 (Nat.le_refl _) (by unfold maxLen; omega) rfl)
              have DE := Lib.hid (show out.drop m = [] from List.drop_of_length_le (by have := HM.out; omega))
              have NW := Lib.hid (show ∀ i u, (cellsM (out.drop m))[i]? = some u → (V.alloc (.cells #[] 90)).cell? ((⟨g, 0, none⟩ : Addr).add i) = some u from fun i u hi => by rw [DE.out] at hi; simp [cellsM] at hi)
              have NL := Lib.hid (show (cellsM (out.drop m)).length = 0 * 2 by rw [DE.out]; rfl)
              have N1 := Lib.hid (cellsM_one (out.drop m))
              have s1 := Lib.hid (show ∀ o : Obj, V.heap.size ≤ (V.alloc o).heap.size from fun o => by simp)
              go_wp2_with (at_builtin; refine wpList_append_own _ rfl (.tmp 32) (.tmp 35) 70 rfl V.heap.size 90 i0 (.agg #[.int .u64 0, .int .i64 0]) 2 16 Try.underlying70 hi hz0 hz1 hz2 rfl (by decide) _ _ _ rfl OE.out ⟨g, 0, none⟩ 0 0 (cellsM (out.drop m)) rfl NL.out NW.out N1.out (by unfold maxLen; omega) (by omega) (s1.out _) ?_)
              intro v1 w4 h1 hg1 _
              have OR := Lib.hid (show w4.ownsRow V.heap.size 90 2 v1 0 (cellsM (out.drop m)) by simpa using h1)
              have B4 := Lib.hid (show Below V.heap.size V w4 from ((Below.refl _ _).alloc (Nat.le_refl _) _).grown hg1 (by simp) (fun k hk => by cases hk; exact Nat.le_refl _))
              clear h1 hg1 OE NW
              have HO4 := Lib.hid (own_below HO3.out B4.out)
              have OK := Lib.hid (own_cut2 HO4.out (show m ≤ m by omega))
              rw [cellsM_take] at OK
              have s4 := Lib.hid (show V.heap.size ≤ w4.heap.size from B4.out.size)
              have vw := Lib.hid (show w.heap.size ≤ V.heap.size from KV.out.size)
              go_wp2_with fail
              have k3 := Lib.hid (show ∀ u ∈ [Value.int .u64 (p0 : Int), .int .i64 p1], u.oneCell' = true by simp [Value.oneCell'])
              have k2 := Lib.hid (fun T => app_two w4.drew (.int .u64 (p0 : Int)) (.int .i64 p1) T)
              have k4 := Lib.hid (show m + 1 ≤ maxLen by unfold maxLen; omega)
              have k5 := Lib.hid (show (m + 1) * 16 ≤ 140737488355328 by omega)
              have k6 := Lib.hid (show ∀ o : Obj, w.heap.size ≤ (w4.drew.alloc o).heap.size from fun o => by have := s4.out; have := vw.out; simp; omega)
              have k7 := Lib.hid (fun o => World.ownsRow.alloc (w := w4.drew) OK.out o)
              have K0 := Lib.hid (XX.out w4.drew B4.out.drew)
              skip
              have K9 := Lib.hid (fun (o : Obj) (w5 : World) (hg : (w4.drew.alloc o).grownBy w5 (Value.ownBlock (.slice (some ⟨g, 0, none⟩) m m))) => (((Below.refl w.heap.size w4).drew.alloc (by have := s4.out; have := vw.out; simp; omega) o).grown hg (k6.out o) (fun k hk => (OK.out.lt k hk).1) : Below w.heap.size w4 w5))
              have K8 := Lib.hid (fun (o : Obj) (w5 : World) (hg : (w4.drew.alloc o).grownBy w5 (Value.ownBlock (.slice (some ⟨g, 0, none⟩) m m))) => (own_keep OR.out (fun r hr hl => (hg.block r (by simp; have : r < w4.heap.size := hl; omega) (by intro e; injection e with e; have e2 : r = g := e; have := g2.out; omega)).trans (Below.heap_alloc _ _ _ hl)) : w5.ownsRow V.heap.size 90 2 v1 0 (cellsM (out.drop m))))
              have z01 := XX.out w4 B4.out
              have z0 := z01.1
              have z1 := z01.2
              clear z01
              go_region_law ((refine step_append_lies _ (by rfl) (.tmp 39) (.tmp 44) 70 (by rfl) w.heap.size 90 i0 (.agg #[.int .u64 0, .int .i64 0]) 2 16 Try.underlying70 hi hz0 hz1 hz2 (by rfl) (by decide) (.slice (some ⟨g, 0, none⟩) m m) m (cellsM (out.take m)) (by rfl) (k7.out _) ⟨w4.heap.size, 0, none⟩ 1 1 [.int .u64 (p0 : Int), .int .i64 p1] (by rfl) (by rfl) (k2.out _) k3.out (by omega) k4.out k5.out (k6.out _) _ (by rfl) ?_; intro gq cp2 w5 hown hgrow hat hlt; have O5 := Lib.hid hown; have B5 := Lib.hid (K9.out _ _ hgrow); have OR5 := Lib.hid (K8.out _ _ hgrow); clear hown hgrow hat hlt z0 z1))
              have IE := Lib.hid (show sortTo L (k + 1) = out.take m ++ [(p0, p1)] ++ out.drop m by rw [SC.out]; unfold insM; rw [PO.out])
              have O5 := Lib.hid (show w5.ownsRow w.heap.size 90 2 (.slice (some ⟨gq, 0, none⟩) (m + 1) cp2) (m + 1) (cellsM (out.take m ++ [(p0, p1)])) by rw [cellsM_app]; exact O5.out)
              have KW := Lib.hid (show Below w.heap.size w w5 from KV.out.trans ((B4.out.mono vw.out).trans B5.out))
              have s6 := Lib.hid (show w.heap.size ≤ w5.heap.size from KW.out.size)
              clear k2 k3 k4 k5 k6 k7 K0 K8 K9 OR B5
              rcases own_open OR5.out with ⟨rfl, hz⟩ | ⟨r, rc, rfl, hr, hrl, hrc⟩
              · have DE2 := Lib.hid (show out.drop m = [] from List.eq_nil_of_length_eq_zero (by have := OR5.out.1; rw [cellsM_len] at this; omega))
                go_wp2_with (at_builtin; refine wpList_append_own_none rfl (.tmp 46) (.tmp 47) 70 rfl w.heap.size 90 i0 2 Try.underlying70 hi _ _ _ rfl O5.out rfl ?_)
                go_wp2
                go_roundw
                case rel => exact ⟨k + 1, by omega, by go_num, by rw [IE.out, DE2.out, List.append_nil, show (out.take m ++ [(p0, p1)]).length = m + 1 by first | (rw [OUT.out]; rfl) | (simp; have := HM.out; omega)]; exact O5.out, KW.out⟩
                case measure => first | (simp [intOf]; done) | (simp [intOf]; omega)
              · have HC := Lib.hid (show ∀ i u, (cellsM (out.drop m))[i]? = some u → w5.cell? ((⟨r, 0, none⟩ : Addr).add i) = some u from fun i u hi => by rw [show (⟨r, 0, none⟩ : Addr).add i = ⟨r, i, none⟩ by unfold Addr.add; split <;> simp_all]; exact hrc i u hi)
                clear hr hrl hrc
                go_wp2_with (at_builtin; refine wpList_append_own _ rfl (.tmp 46) (.tmp 47) 70 rfl w.heap.size 90 i0 (.agg #[.int .u64 0, .int .i64 0]) 2 16 Try.underlying70 hi hz0 hz1 hz2 rfl (by decide) _ _ _ rfl O5.out ⟨r, 0, none⟩ 0 rc (cellsM (out.drop m)) rfl NL.out HC.out N1.out (by unfold maxLen; omega) (by omega) s6.out ?_)
                intro v3 w6 h3 hg3 _
                have O6 := Lib.hid (show w6.ownsRow w.heap.size 90 2 v3 (m + 1 + 0) (cellsM (out.take m ++ [(p0, p1)] ++ out.drop m)) by rw [cellsM_app]; exact h3)
                have B6 := Lib.hid (show Below w.heap.size w5 w6 from (Below.refl _ _).grown hg3 s6.out (fun k hk => (O5.out.lt k hk).1))
                clear h3 hg3
                go_wp2
                go_roundw
                case rel => exact ⟨k + 1, by omega, by go_num, by rw [IE.out, show (out.take m ++ [(p0, p1)] ++ out.drop m).length = m + 1 + 0 by first | (rw [OUT.out]; rfl) | (simp; have := HM.out; omega)]; exact O6.out, KW.out.trans B6.out⟩
                case measure => first | (simp [intOf]; done) | (simp [intOf]; omega)
            · have ncj2 : ¬ cap = m := fun e => ncj e.symm
              go_wp2_with fail
              refine wp_region_wb (by kernel_rfl) (by kernel_rfl) ?_
              repeat (go_big_quiet_step (fail))
              refine wpQuiet_nil ?_
              rintro _ ⟨y, rfl⟩
              have KV := Lib.hid (show Below w.heap.size w y.at from HB.out.trans ((B3.out.trans (y.bel.mono B3.out.size)).mono HB.out.size))
              have HO3 := Lib.hid (own_below HO3k.out y.bel)
              have XX := Lib.hid (fun (U : World) (k : Below y.at.heap.size y.at U) => XW.out U (B3.out.trans ((y.bel.trans (k.mono y.bel.size)).mono B3.out.size)))
              obtain ⟨V, hV⟩ : ∃ V, V = y.at := ⟨_, rfl⟩
              rw [← hV] at KV HO3 XX
              rw [← hV]
              clear hV XW
              have OC := Lib.hid (own_cap3 HO3.out)
              have q1 : (0 : Int) ≤ (m : Int) := by omega
              have q2 : (m : Int) ≤ (m : Int) := by omega
              have q3 : (m : Int) ≤ (cap : Int) := by have := OC.out.1; omega
              have q4 : (m : Int) ≤ (cap : Int) := by omega
              have g2 := Lib.hid (show g < V.heap.size from (HO3.out.lt g rfl).2)
              have OE := Lib.hid (show (V.alloc (.cells #[] 90)).ownsRow V.heap.size 90 2 (.slice (some ⟨V.heap.size, 0, none⟩) 0 0) 0 [] from World.ownsRow_made V #[] 0 (Nat.le_refl _) (by unfold maxLen; omega) rfl)
              have DE := Lib.hid (show out.drop m = [] from List.drop_of_length_le (by have := HM.out; omega))
              have NW := Lib.hid (show ∀ i u, (cellsM (out.drop m))[i]? = some u → (V.alloc (.cells #[] 90)).cell? ((⟨g, m * 2, none⟩ : Addr).add i) = some u from fun i u hi => by rw [DE.out] at hi; simp [cellsM] at hi)
              have NL := Lib.hid (show (cellsM (out.drop m)).length = 0 * 2 by rw [DE.out]; rfl)
              have N1 := Lib.hid (cellsM_one (out.drop m))
              have s1 := Lib.hid (show ∀ o : Obj, V.heap.size ≤ (V.alloc o).heap.size from fun o => by simp)
              go_wp2_with (at_builtin; refine wpList_append_own _ rfl (.tmp 32) (.tmp 35) 70 rfl V.heap.size 90 i0 (.agg #[.int .u64 0, .int .i64 0]) 2 16 Try.underlying70 hi hz0 hz1 hz2 rfl (by decide) _ _ _ rfl OE.out ⟨g, m * 2, none⟩ 0 (cap - m) (cellsM (out.drop m)) rfl NL.out NW.out N1.out (by unfold maxLen; omega) (by omega) (s1.out _) ?_)
              intro v1 w4 h1 hg1 _
              have OR := Lib.hid (show w4.ownsRow V.heap.size 90 2 v1 0 (cellsM (out.drop m)) by simpa using h1)
              have B4 := Lib.hid (show Below V.heap.size V w4 from ((Below.refl _ _).alloc (Nat.le_refl _) _).grown hg1 (by simp) (fun k hk => by cases hk; exact Nat.le_refl _))
              clear h1 hg1 OE NW
              have HO4 := Lib.hid (own_below HO3.out B4.out)
              have OK := Lib.hid (own_cut2 HO4.out (show m ≤ m by omega))
              rw [cellsM_take] at OK
              have s4 := Lib.hid (show V.heap.size ≤ w4.heap.size from B4.out.size)
              have vw := Lib.hid (show w.heap.size ≤ V.heap.size from KV.out.size)
              go_wp2_with fail
              have k3 := Lib.hid (show ∀ u ∈ [Value.int .u64 (p0 : Int), .int .i64 p1], u.oneCell' = true by simp [Value.oneCell'])
              have k2 := Lib.hid (fun T => app_two w4.drew (.int .u64 (p0 : Int)) (.int .i64 p1) T)
              have k4 := Lib.hid (show m + 1 ≤ maxLen by unfold maxLen; omega)
              have k5 := Lib.hid (show (m + 1) * 16 ≤ 140737488355328 by omega)
              have k6 := Lib.hid (show ∀ o : Obj, w.heap.size ≤ (w4.drew.alloc o).heap.size from fun o => by have := s4.out; have := vw.out; simp; omega)
              have k7 := Lib.hid (fun o => World.ownsRow.alloc (w := w4.drew) OK.out o)
              have K0 := Lib.hid (XX.out w4.drew B4.out.drew)
              skip
              have K9 := Lib.hid (fun (o : Obj) (w5 : World) (hg : (w4.drew.alloc o).grownBy w5 (Value.ownBlock (.slice (some ⟨g, 0, none⟩) m cap))) => (((Below.refl w.heap.size w4).drew.alloc (by have := s4.out; have := vw.out; simp; omega) o).grown hg (k6.out o) (fun k hk => (OK.out.lt k hk).1) : Below w.heap.size w4 w5))
              have K8 := Lib.hid (fun (o : Obj) (w5 : World) (hg : (w4.drew.alloc o).grownBy w5 (Value.ownBlock (.slice (some ⟨g, 0, none⟩) m cap))) => (own_keep OR.out (fun r hr hl => (hg.block r (by simp; have : r < w4.heap.size := hl; omega) (by intro e; injection e with e; have e2 : r = g := e; have := g2.out; omega)).trans (Below.heap_alloc _ _ _ hl)) : w5.ownsRow V.heap.size 90 2 v1 0 (cellsM (out.drop m))))
              have z01 := XX.out w4 B4.out
              have z0 := z01.1
              have z1 := z01.2
              clear z01
              go_region_law ((refine step_append_lies _ (by rfl) (.tmp 39) (.tmp 44) 70 (by rfl) w.heap.size 90 i0 (.agg #[.int .u64 0, .int .i64 0]) 2 16 Try.underlying70 hi hz0 hz1 hz2 (by rfl) (by decide) (.slice (some ⟨g, 0, none⟩) m cap) m (cellsM (out.take m)) (by rfl) (k7.out _) ⟨w4.heap.size, 0, none⟩ 1 1 [.int .u64 (p0 : Int), .int .i64 p1] (by rfl) (by rfl) (k2.out _) k3.out (by omega) k4.out k5.out (k6.out _) _ (by rfl) ?_; intro gq cp2 w5 hown hgrow hat hlt; have O5 := Lib.hid hown; have B5 := Lib.hid (K9.out _ _ hgrow); have OR5 := Lib.hid (K8.out _ _ hgrow); clear hown hgrow hat hlt z0 z1))
              have IE := Lib.hid (show sortTo L (k + 1) = out.take m ++ [(p0, p1)] ++ out.drop m by rw [SC.out]; unfold insM; rw [PO.out])
              have O5 := Lib.hid (show w5.ownsRow w.heap.size 90 2 (.slice (some ⟨gq, 0, none⟩) (m + 1) cp2) (m + 1) (cellsM (out.take m ++ [(p0, p1)])) by rw [cellsM_app]; exact O5.out)
              have KW := Lib.hid (show Below w.heap.size w w5 from KV.out.trans ((B4.out.mono vw.out).trans B5.out))
              have s6 := Lib.hid (show w.heap.size ≤ w5.heap.size from KW.out.size)
              clear k2 k3 k4 k5 k6 k7 K0 K8 K9 OR B5
              rcases own_open OR5.out with ⟨rfl, hz⟩ | ⟨r, rc, rfl, hr, hrl, hrc⟩
              · have DE2 := Lib.hid (show out.drop m = [] from List.eq_nil_of_length_eq_zero (by have := OR5.out.1; rw [cellsM_len] at this; omega))
                go_wp2_with (at_builtin; refine wpList_append_own_none rfl (.tmp 46) (.tmp 47) 70 rfl w.heap.size 90 i0 2 Try.underlying70 hi _ _ _ rfl O5.out rfl ?_)
                go_wp2
                go_roundw
                case rel => exact ⟨k + 1, by omega, by go_num, by rw [IE.out, DE2.out, List.append_nil, show (out.take m ++ [(p0, p1)]).length = m + 1 by first | (rw [OUT.out]; rfl) | (simp; have := HM.out; omega)]; exact O5.out, KW.out⟩
                case measure => first | (simp [intOf]; done) | (simp [intOf]; omega)
              · have HC := Lib.hid (show ∀ i u, (cellsM (out.drop m))[i]? = some u → w5.cell? ((⟨r, 0, none⟩ : Addr).add i) = some u from fun i u hi => by rw [show (⟨r, 0, none⟩ : Addr).add i = ⟨r, i, none⟩ by unfold Addr.add; split <;> simp_all]; exact hrc i u hi)
                clear hr hrl hrc
                go_wp2_with (at_builtin; refine wpList_append_own _ rfl (.tmp 46) (.tmp 47) 70 rfl w.heap.size 90 i0 (.agg #[.int .u64 0, .int .i64 0]) 2 16 Try.underlying70 hi hz0 hz1 hz2 rfl (by decide) _ _ _ rfl O5.out ⟨r, 0, none⟩ 0 rc (cellsM (out.drop m)) rfl NL.out HC.out N1.out (by unfold maxLen; omega) (by omega) s6.out ?_)
                intro v3 w6 h3 hg3 _
                have O6 := Lib.hid (show w6.ownsRow w.heap.size 90 2 v3 (m + 1 + 0) (cellsM (out.take m ++ [(p0, p1)] ++ out.drop m)) by rw [cellsM_app]; exact h3)
                have B6 := Lib.hid (show Below w.heap.size w5 w6 from (Below.refl _ _).grown hg3 s6.out (fun k hk => (O5.out.lt k hk).1))
                clear h3 hg3
                go_wp2
                go_roundw
                case rel => exact ⟨k + 1, by omega, by go_num, by rw [IE.out, show (out.take m ++ [(p0, p1)] ++ out.drop m).length = m + 1 + 0 by first | (rw [OUT.out]; rfl) | (simp; have := HM.out; omega)]; exact O6.out, KW.out.trans B6.out⟩
                case measure => first | (simp [intOf]; done) | (simp [intOf]; omega)
    · obtain rfl : n = k := by omega
      have E := Lib.hid (show (sortTo L n).length = n from sortTo_len L n (by have := HN.out; omega))
      have dj : decide ((n : Int) < (n : Int)) = false := by simp
      have HN2 := Lib.hid HN.out
      go_wp2
      go_ret
      exact ⟨_, rfl, by have := HO.out; rw [E.out] at this; rw [← HN2.out]; exact this, HB.out⟩
end Go.Proofs.Ytnpgpbcpgniloaa
