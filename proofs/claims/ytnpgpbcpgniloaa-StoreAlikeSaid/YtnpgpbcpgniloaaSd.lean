/-
  Layer 6: a tree of bits as it lies in memory.
  Layer 6, the walks: Get, Len.
  Layer 6, the walks: Len64.
-/
import Derived.Test.YtnpgpbcpgniloaaBx
import Derived.Test.YtnpgpbcpgniloaaSa
import Derived.Test.YtnpgpbcpgniloaaSl
import Derived.Deep.LoopGhost
import Derived.Handy
import Derived.Laws.BitsAllLaws
set_option linter.unusedSimpArgs false
set_option linter.unusedVariables false
namespace Go.Proofs.Ytnpgpbcpgniloaa
open Go.RowKit GrS

abbrev leafCells (k : Nat) (v : Int) : List Value := [.int .u64 (k : Int), .int .u64 v, .int .i64 0, .pointer none, .pointer none]
abbrev nodeCells (k b : Nat) (l r : Nat) : List Value := [.int .u64 (k : Int), .int .u64 0, .int .i64 (b : Int), .pointer (some ⟨l, 0, none⟩), .pointer (some ⟨r, 0, none⟩)]
/-- the tree t at block B, all of whose blocks are in S -/
def TrS (V : World) (S : Nat → Prop) : Nat → Tr → Prop
  | B, .leaf k v => S B ∧ Row V B (leafCells k v) 129
  | B, .node k b l r => S B ∧ ∃ x y, Row V B (nodeCells k b x y) 129 ∧ TrS V S x l ∧ TrS V S y r
abbrev TrAt (V : World) (B : Nat) (t : Tr) : Prop := TrS V (fun _ => True) B t
def PAt (V : World) (p : Option Addr) (t : Option Tr) : Prop := match t with
  | none => p = none
  | some t => ∃ B, p = some ⟨B, 0, none⟩ ∧ TrAt V B t
theorem TrS.below {V U : World} {S : Nat → Prop} (k : Below V.heap.size V U) : ∀ (t : Tr) (B : Nat), TrS V S B t → TrS U S B t
  | .leaf _ _, _, h => ⟨h.1, Row.below h.2 k⟩
  | .node _ _ l r, _, ⟨s, x, y, h, hl, hr⟩ => ⟨s, x, y, h.below k, TrS.below k l x hl, TrS.below k r y hr⟩
theorem TrS.upto {V U : World} {S : Nat → Prop} {m : Nat} (k : Below m V U) (hS : ∀ C, S C → C < m) : ∀ (t : Tr) (B : Nat), TrS V S B t → TrS U S B t
  | .leaf _ _, _, h => ⟨h.1, Row.upto h.2 k (hS _ h.1)⟩
  | .node _ _ l r, _, ⟨s, x, y, h, hl, hr⟩ => ⟨s, x, y, h.upto k (hS _ s), TrS.upto k hS l x hl, TrS.upto k hS r y hr⟩
theorem TrS.mono {V : World} {S S' : Nat → Prop} (hS : ∀ C, S C → S' C) : ∀ (t : Tr) (B : Nat), TrS V S B t → TrS V S' B t
  | .leaf _ _, _, h => ⟨hS _ h.1, h.2⟩
  | .node _ _ l r, _, ⟨s, x, y, h, hl, hr⟩ => ⟨hS _ s, x, y, h, TrS.mono hS l x hl, TrS.mono hS r y hr⟩
theorem TrS.lt {V : World} {S : Nat → Prop} : ∀ (t : Tr) (B : Nat), TrS V S B t → TrS V (fun C => S C ∧ C < V.heap.size) B t
  | .leaf _ _, _, h => ⟨⟨h.1, h.2.lt⟩, h.2⟩
  | .node _ _ l r, _, ⟨s, x, y, h, hl, hr⟩ => ⟨⟨s, h.lt⟩, x, y, h, TrS.lt l x hl, TrS.lt r y hr⟩
theorem TrS.in {V : World} {S : Nat → Prop} : ∀ {t : Tr} {B : Nat}, TrS V S B t → S B
  | .leaf _ _, _, h => h.1
  | .node _ _ _ _, _, h => h.1
theorem TrS.set {V : World} {S : Nat → Prop} {P : Nat} (hP : ¬ S P) (i : Nat) (v : Value) : ∀ (t : Tr) (B : Nat), TrS V S B t → TrS (V.setCell ⟨P, i, none⟩ v) S B t
  | .leaf _ _, _, h => ⟨h.1, h.2.oth (C := P) (fun e => hP (by rw [← e]; exact h.1)) i v⟩
  | .node _ _ l r, _, ⟨s, x, y, h, hl, hr⟩ => ⟨s, x, y, h.oth (C := P) (fun e => hP (by rw [← e]; exact s)) i v, TrS.set hP i v l x hl, TrS.set hP i v r y hr⟩
theorem PAt.below {V U : World} {p : Option Addr} {t : Option Tr} (h : PAt V p t) (k : Below V.heap.size V U) : PAt U p t := by
  cases t with
  | none => exact h
  | some t => obtain ⟨B, e, h⟩ := h; exact ⟨B, e, TrS.below k t B h⟩
def size : Tr → Nat
  | .leaf _ _ => 1
  | .node _ _ l r => size l + size r + 1
/-- a map as it lies in memory -/
structure MAt (V : World) (p : Option Addr) (n : Int) (t : Option Tr) : Prop where
  at' : PAt V p t
  n : n = (toLO t).length
  wf : WFO t
theorem MAt.below {V U : World} {p : Option Addr} {n : Int} {t : Option Tr} (h : MAt V p n t) (k : Below V.heap.size V U) : MAt U p n t := ⟨h.at'.below k, h.n, h.wf⟩
theorem and_one (x : Int) (h0 : 0 ≤ x) (h1 : x < 18446744073709551616) : bits .and .u64 x 1 = x % 2 := by go_bits2
theorem bit_and (b K : Nat) (h : K < 18446744073709551616) : (bits .and .u64 ((K : Int) / 2 ^ b) 1 == 0) = decide (bit b K = 0) := by
  have e : ((K : Int) / 2 ^ b) = ((K / 2 ^ b : Nat) : Int) := by simp
  have lt : K / 2 ^ b ≤ K := Nat.div_le_self _ _
  rw [e]
  unfold bit
  obtain ⟨q, hq⟩ : ∃ q, q = K / 2 ^ b := ⟨_, rfl⟩
  rw [← hq] at lt ⊢
  rw [and_one _ (by omega) (by omega)]
  by_cases c : q % 2 = 0
  · rw [decide_eq_true c, beq_iff_eq]; omega
  · rw [decide_eq_false c, beq_eq_false_iff_ne]; omega
def getV (o : Option Int) : Value := match o with | none => .tuple #[.int .u64 0, .bool false] | some v => .tuple #[.int .u64 v, .bool true]
end Go.Proofs.Ytnpgpbcpgniloaa

namespace Go.Proofs.Ytnpgpbcpgniloaa
open Go.RowKit GrS

set_option maxRecDepth 100000 in
set_option maxHeartbeats 1600000 in
theorem mget_some (B : Nat) (n : Int) (t : Tr) (K : Nat) (w : World) (h : TrAt w B t) (hw : t.WF) (hK : K < 18446744073709551616) :
    Calls Try.prog 51 #[.agg #[.pointer (some ⟨B, 0, none⟩), .int .i64 n], .int .u64 (K : Int)] w fun e w' => e = .returned (getV (t.look K)) ∧ Below w.heap.size w w' := by
  have H := Lib.hid h
  have HW := Lib.hid hw
  clear h hw
  go_enter Try.func51, Try.ntmps51
  go_upto_region 1 with fail
  refine to_cls ?_
  intro U hU z
  have r_m : ∀ z : Wb U, Row z.at w.heap.size [.pointer (some ⟨B, 0, none⟩), .int .i64 n] 36 := Row.next (Row.new _ [.pointer (some ⟨B, 0, none⟩), .int .i64 n] _) hU
  have KK := Lib.hid (KB.next (KB.alloc (Below.refl _ _) _) hU)
  have m0 : ∀ z : Wb U, z.at.cell? ⟨w.heap.size, 0, none⟩ = some (.pointer (some ⟨B, 0, none⟩)) := fun z => (r_m z).cell 0
  go_wp2_with fail
  go_loopg [6] (size t) (fun g p wr => ∃ (b : Nat) (s : Tr), p = .pointer (some ⟨b, 0, none⟩) ∧ TrAt wr b s ∧ s.WF ∧ s.look K = t.look K ∧ g = size s ∧ Below z.at.heap.size z.at wr)
  case atStart => exact ⟨B, t, rfl, TrS.below (KK.out z) t B H.out, HW.out, rfl, rfl, Below.refl _ _⟩
  case round =>
    obtain ⟨b, s, rfl, hs, hsw, hl, hg, hb⟩ := hrel
    have HB := Lib.hid hb
    have HL := Lib.hid hl
    have HG := Lib.hid hg
    clear hb hl hg
    cases s with
    | leaf k v =>
      have e0 : wr.cell? ⟨b, 0, none⟩ = some (.int .u64 (k : Int)) := Row.cell hs.2 0
      have e1 : wr.cell? ⟨b, 1, none⟩ = some (.int .u64 v) := Row.cell hs.2 1
      have e3 : wr.cell? ⟨b, 3, none⟩ = some (.pointer none) := Row.cell hs.2 3
      by_cases c : k = K
      · subst c
        have R := Lib.hid (show t.look k = some v by rw [← HL.out]; simp [Tr.look])
        go_wp2
        refine bodyPost_ret (v := .tuple #[.int .u64 v, .bool true]) (by simp [results, Try.results51, go_sem, *]) rfl ⟨by rw [R.out]; rfl, (KK.out z).trans (HB.out.mono (KK.out z).size)⟩
      · have R := Lib.hid (show t.look K = none by rw [← HL.out]; simp [Tr.look, c])
        have ck : (((k : Nat) : Int) == (K : Int)) = false := by simp; omega
        go_wp2
        refine bodyPost_ret (v := .tuple #[.int .u64 0, .bool false]) (by simp [results, Try.results51, go_sem, *]) rfl ⟨by rw [R.out]; rfl, (KK.out z).trans (HB.out.mono (KK.out z).size)⟩
    | node k bt l r =>
      obtain ⟨_, x, y, hr, hl, hrr⟩ := hs
      have e0 : wr.cell? ⟨b, 0, none⟩ = some (.int .u64 (k : Int)) := hr.cell 0
      have e2 : wr.cell? ⟨b, 2, none⟩ = some (.int .i64 (bt : Int)) := hr.cell 2
      have e3 : wr.cell? ⟨b, 3, none⟩ = some (.pointer (some ⟨x, 0, none⟩)) := hr.cell 3
      have e4 : wr.cell? ⟨b, 4, none⟩ = some (.pointer (some ⟨y, 0, none⟩)) := hr.cell 4
      have b0 : (0 : Int) ≤ (bt : Int) := by omega
      have b1 : (bt : Int) < 64 := by have := hsw.1; omega
      have b2 : bt < 64 := hsw.1
      have BA := bit_and bt K hK
      have SL := Lib.hid hl
      have SR := Lib.hid hrr
      have WL := Lib.hid hsw.2.2.2.2.1
      have WR := Lib.hid hsw.2.2.2.2.2
      clear hl hrr hsw
      by_cases c : bit bt K = 0
      · rw [decide_eq_true c] at BA
        have LK := Lib.hid (show l.look K = t.look K by rw [← HL.out]; simp [Tr.look, c])
        clear c
        go_wp2
        go_roundg (size l)
        case measure => rw [HG.out]; simp only [size]; omega
        case rel => exact ⟨x, l, rfl, SL.out, WL.out, LK.out, rfl, HB.out⟩
      · rw [decide_eq_false c] at BA
        have LK := Lib.hid (show r.look K = t.look K by rw [← HL.out]; simp [Tr.look, c])
        clear c
        go_wp2
        go_roundg (size r)
        case measure => rw [HG.out]; simp only [size]; omega
        case rel => exact ⟨y, r, rfl, SR.out, WR.out, LK.out, rfl, HB.out⟩
theorem mget_none (n : Int) (K : Nat) (w : World) :
    Calls Try.prog 51 #[.agg #[.pointer none, .int .i64 n], .int .u64 (K : Int)] w fun e w' => e = .returned (getV none) ∧ Below w.heap.size w w' := by
  go_enter Try.func51, Try.ntmps51
  go_wp2_with fail
  refine wp_loop_rounds 2 ?_
  rw [rounds_succ]
  go_wp2
  refine bodyPost_ret (v := .tuple #[.int .u64 0, .bool false]) (by simp [results, Try.results51, go_sem, *]) rfl ⟨rfl, KB.alloc (Below.refl _ _) _⟩
theorem mget_any (p : Option Addr) (n : Int) (t : Option Tr) (K : Nat) (w : World) (h : MAt w p n t) (hK : K < 18446744073709551616) :
    Calls Try.prog 51 #[.agg #[.pointer p, .int .i64 n], .int .u64 (K : Int)] w fun e w' => e = .returned (getV (lookO t K)) ∧ Below w.heap.size w w' := by
  cases t with
  | none =>
    obtain ⟨rfl, _, _⟩ := h
    exact mget_none n K w
  | some t =>
    obtain ⟨⟨B, rfl, ht⟩, _, hw⟩ := h
    exact mget_some B n t K w ht hw hK
theorem maplen_any (p : Option Addr) (n : Int) (w : World) :
    Calls Try.prog 49 #[.agg #[.pointer p, .int .i64 n]] w fun e w' => e = .returned (.int .i64 n) ∧ Below w.heap.size w w' := by
  go_enter Try.func49, Try.ntmps49
  go_wp2
  go_ret
  exact ⟨rfl, KB.alloc (Below.refl _ _) _⟩
end Go.Proofs.Ytnpgpbcpgniloaa

namespace Go.Proofs.Ytnpgpbcpgniloaa
open Go.RowKit GrS

theorem ret_i {a b : Int} (h : a = b) : Ending.returned (.int .i64 a) = .returned (.int .i64 b) := by rw [h]
theorem wrap_add (s a b : Nat) (hs : s ≤ 56) (ha : a ≤ 8) (hb : b = s + a) : wrap64 ((s : Int) + wrap64 (a : Int)) = (b : Int) := by
  unfold wrap64
  omega
theorem wrap_one (a b : Nat) (ha : a ≤ 8) (hb : b = a) : wrap64 (a : Int) = (b : Int) := by
  unfold wrap64
  omega
theorem wrap_two (a b : Nat) (ha : a ≤ 8) (hb : b = a) : wrap64 (wrap64 (a : Int)) = (b : Int) := by
  unfold wrap64
  omega
theorem dd1 (x a : Nat) : ((x : Int) / (a : Int)).toNat = x / a := by rw [← Int.natCast_ediv, Int.toNat_natCast]
theorem dd2 (x a b : Nat) : ((x : Int) / (a : Int) / (b : Int)).toNat = x / (a * b) := by rw [← Int.natCast_ediv, ← Int.natCast_ediv, Int.toNat_natCast, Nat.div_div_eq_div_mul]
theorem dd3 (x a b c : Nat) : ((x : Int) / (a : Int) / (b : Int) / (c : Int)).toNat = x / (a * b * c) := by rw [← Int.natCast_ediv, ← Int.natCast_ediv, ← Int.natCast_ediv, Int.toNat_natCast, Nat.div_div_eq_div_mul, Nat.div_div_eq_div_mul, Nat.mul_assoc]
theorem l64_end (x s d : Nat) (hd : d = 2 ^ s) (h1 : d ≤ x) (h2 : x / d < 256) (hs : s ≤ 56) (i : Nat) (hi : i = x / d) : wrap64 ((s : Int) + wrap64 ((bitLen i : Nat) : Int)) = ((bitLen x : Nat) : Int) := by
  subst hi hd
  have h3 : x / 2 ^ s ≠ 0 := by
    have := Nat.div_pos h1 (Nat.two_pow_pos s)
    omega
  exact wrap_add s _ _ hs (bitLen_le8 _ h2) (bitLen_shift x s h3)

set_option maxRecDepth 1000000 in
set_option maxHeartbeats 3200000 in
theorem len64_any (x : Nat) (w : World) (h : x < 18446744073709551616) :
    Calls Try.prog 72 #[.int .u64 (x : Int)] w fun e w' => e = .returned (.int .i64 ((bitLen x : Nat) : Int)) ∧ w = w' := by
  obtain ⟨y, hy⟩ : ∃ y : Int, y = (x : Int) := ⟨_, rfl⟩
  rw [← hy]
  have h0 : 0 ≤ y := by omega
  have h1 : y ≤ 18446744073709551615 := by omega
  have HY := Lib.hid hy
  have HX := Lib.hid h
  clear hy h
  go_enter Try.func72, Try.ntmps72
  go_wp2
  · go_ret
    refine ⟨?_, rfl⟩
    rw [len8tab_get]
    have ey := HY.out
    have ex := HX.out
    have e := dd3 x 4294967296 65536 256
    subst ey
    exact ret_i (l64_end x 56 72057594037927936 (by decide) (by omega) (by omega) (by decide) _ e)
  · go_ret
    refine ⟨?_, rfl⟩
    rw [len8tab_get]
    have ey := HY.out
    have ex := HX.out
    have e := dd2 x 4294967296 65536
    subst ey
    exact ret_i (l64_end x 48 281474976710656 (by decide) (by omega) (by omega) (by decide) _ e)
  · go_ret
    refine ⟨?_, rfl⟩
    rw [len8tab_get]
    have ey := HY.out
    have ex := HX.out
    have e := dd2 x 4294967296 256
    subst ey
    exact ret_i (l64_end x 40 1099511627776 (by decide) (by omega) (by omega) (by decide) _ e)
  · go_ret
    refine ⟨?_, rfl⟩
    rw [len8tab_get]
    have ey := HY.out
    have ex := HX.out
    have e := dd1 x 4294967296
    subst ey
    exact ret_i (l64_end x 32 4294967296 (by decide) (by omega) (by omega) (by decide) _ e)
  · go_ret
    refine ⟨?_, rfl⟩
    rw [len8tab_get]
    have ey := HY.out
    have ex := HX.out
    have e := dd2 x 65536 256
    subst ey
    exact ret_i (l64_end x 24 16777216 (by decide) (by omega) (by omega) (by decide) _ e)
  · go_ret
    refine ⟨?_, rfl⟩
    rw [len8tab_get]
    have ey := HY.out
    have ex := HX.out
    have e := dd1 x 65536
    subst ey
    exact ret_i (l64_end x 16 65536 (by decide) (by omega) (by omega) (by decide) _ e)
  · go_ret
    refine ⟨?_, rfl⟩
    rw [len8tab_get]
    have ey := HY.out
    have ex := HX.out
    have e := dd1 x 256
    subst ey
    exact ret_i (l64_end x 8 256 (by decide) (by omega) (by omega) (by decide) _ e)
  · go_ret
    refine ⟨?_, rfl⟩
    rw [len8tab_get]
    have ey := HY.out
    have ex := HX.out
    have e : y.toNat = x := by omega
    rw [e]
    have l8 := bitLen_le8 x (by omega)
    exact ret_i (by first | rfl | exact wrap_one _ _ l8 rfl | exact wrap_two _ _ l8 rfl)
end Go.Proofs.Ytnpgpbcpgniloaa
