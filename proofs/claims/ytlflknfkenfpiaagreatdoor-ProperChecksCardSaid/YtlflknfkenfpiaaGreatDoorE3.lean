/-
  Texts of one claim, merged.
-/
import Derived.Test.YtlflknfkenfpiaaGreatDoorE2
import Derived.Test.YtlflknfkenfpiaaGreatDoorE1
import Derived.Test.YtlflknfkenfpiaaGreatDoorB1
set_option linter.unusedSimpArgs false
set_option linter.unusedVariables false
namespace GrN
def evK (cores : Int) (c : K) : Int := sumP c.code cores c.code.length + accP c.code c.code.length * sumP c.hand cores c.hand.length
def evP (L : List K) (cores : Int) (i : Nat) : Int := ((L.take i).map (evK cores)).sum
def EventsS (L : List K) : Int := evP L (L.length : Int) L.length
theorem evP_succ (L : List K) (cores : Int) (i : Nat) (h : i < L.length) : evP L cores (i + 1) = evP L cores i + evK cores L[i] := by
  rw [evP, evP, take_succ' L i h, List.map_append, List.sum_append]
  simp only [List.map_cons, List.map_nil, List.sum_cons, List.sum_nil, Int.add_zero]
def smallK (c : K) : Prop := c.code.length ≤ 40 ∧ c.hand.length ≤ 40
theorem mul_bd {a b : Int} (h0 : 0 ≤ a) (h1 : a ≤ 40) (k0 : 0 ≤ b) (k1 : b ≤ 280) : 0 ≤ a * b ∧ a * b ≤ 11200 := by
  refine ⟨Int.mul_nonneg h0 k0, ?_⟩
  have := Int.mul_le_mul h1 k1 k0 (by omega : (0 : Int) ≤ 40)
  omega
theorem evK_bd (c : K) (cores : Int) (h0 : 0 ≤ cores) (h1 : cores ≤ 6) (hc : smallK c) : 0 ≤ evK cores c ∧ evK cores c ≤ 11480 := by
  have a := sum_bd c.code cores h0 h1 c.code.length (Nat.le_refl _)
  have b := sum_bd c.hand cores h0 h1 c.hand.length (Nat.le_refl _)
  have d := acc_bd c.code c.code.length (Nat.le_refl _)
  have := hc.1
  have := hc.2
  have m := mul_bd (a := accP c.code c.code.length) (b := sumP c.hand cores c.hand.length) (by omega) (by omega) (by omega) (by omega)
  unfold evK
  omega
theorem evP_bd (L : List K) (cores : Int) (h0 : 0 ≤ cores) (h1 : cores ≤ 6) (hc : ∀ c ∈ L, smallK c) : ∀ i : Nat, i ≤ L.length → 0 ≤ evP L cores i ∧ evP L cores i ≤ 11480 * (i : Int)
  | 0, _ => by simp [evP]
  | i + 1, h => by
    have ih := evP_bd L cores h0 h1 hc i (by omega)
    have e := evK_bd L[i] cores h0 h1 (hc _ (List.getElem_mem _))
    rw [evP_succ L cores i (by omega)]
    omega
end GrN
namespace Go.Proofs.YtlflknfkenfpiaaGreatDoor
open Go.RowKit GrN
def KsAt (W : World) (p : Option Addr) (L : List GrN.K) : Prop := ∀ i (h : i < L.length), ∃ a pr cr pc cc ph ch, p = some a ∧ W.cell? (a.add (i * 5)) = some (.slice pr (L[i]'h).regs cr) ∧ W.cell? ⟨(a.add (i * 5)).block, (a.add (i * 5)).off + 1, none⟩ = some (.int .i64 (L[i]'h).space) ∧ W.cell? ⟨(a.add (i * 5)).block, (a.add (i * 5)).off + 2, none⟩ = some (.int .u64 (L[i]'h).tab) ∧ W.cell? ⟨(a.add (i * 5)).block, (a.add (i * 5)).off + 3, none⟩ = some (.slice pc (L[i]'h).code.length cc) ∧ W.cell? ⟨(a.add (i * 5)).block, (a.add (i * 5)).off + 4, none⟩ = some (.slice ph (L[i]'h).hand.length ch) ∧ XsAt W pc (L[i]'h).code ∧ XsAt W ph (L[i]'h).hand
theorem KsAt.below {W U : World} {p : Option Addr} {L : List GrN.K} (h : KsAt W p L) (b : Below W.heap.size W U) : KsAt U p L := fun j hj => by
  obtain ⟨a, pr, cr, pc, cc, ph, ch, e, c0, c1, c2, c3, c4, x1, x2⟩ := h j hj
  exact ⟨a, pr, cr, pc, cc, ph, ch, e, keep_below b _ _ c0, keep_below b _ _ c1, keep_below b _ _ c2, keep_below b _ _ c3, keep_below b _ _ c4, x1.below b, x2.below b⟩
set_option maxRecDepth 100000 in
set_option maxHeartbeats 12800000 in
theorem cevents_any (L : List GrN.K) (nm : ByteArray) (pc : Option Addr) (nc cc : Nat) (pk : Option Addr) (nk ck : Nat) (fa : Bool) (ck0 cco cr cad cva : Int) (pg : Option Addr) (ng cg : Nat) (w : World) (hn : nk = L.length) (h6 : nk ≤ 6) (hL : KsAt w pk L) (hc : ∀ c ∈ L, smallK c) :
    Calls Tryz.prog 8 #[.agg #[.string nm, .slice pc nc cc, .slice pk nk ck, .bool fa, .int .i64 ck0, .int .i64 cco, .int .i64 cr, .int .u64 cad, .int .u64 cva, .slice pg ng cg]] w fun e w' => e = .returned (.int .i64 (EventsS L)) ∧ Below w.heap.size w w' := by
  have N := Lib.hid hn
  have HC := Lib.hid hc
  have k0 : (0 : Int) ≤ (nk : Int) := by omega
  have k1 : (nk : Int) ≤ 6 := by omega
  have EB := Lib.hid (evP_bd L (nk : Int) k0 k1 hc)
  have ES := Lib.hid (evP_succ L (nk : Int))
  have EV := Lib.hid (show EventsS L = evP L (nk : Int) L.length by rw [EventsS, hn])
  have E0 : evP L (nk : Int) 0 = 0 := by simp [evP]
  clear hn h6 hc
  go_enter Tryz.func8, Tryz.ntmps8
  go_upto_region 1 with fail
  refine to_cls ?_
  intro U0 hU0 y0
  have r_t : ∀ z : Wb U0, Row z.at w.heap.size [.string nm, .slice pc nc cc, .slice pk nk ck, .bool fa, .int .i64 ck0, .int .i64 cco, .int .i64 cr, .int .u64 cad, .int .u64 cva, .slice pg ng cg] 29 := Row.next (Row.new _ [.string nm, .slice pc nc cc, .slice pk nk ck, .bool fa, .int .i64 ck0, .int .i64 cco, .int .i64 cr, .int .u64 cad, .int .u64 cva, .slice pg ng cg] _) hU0
  have KK := Lib.hid (KB.next (KB.alloc (Below.refl w.heap.size w) _) hU0)
  have LL := Lib.hid (fun z : Wb U0 => hL.below (KK.out z))
  clear hU0 hL
  have t_2 := fun z : Wb U0 => (r_t z).cell 2
  simp only [List.getElem?_cons_zero, List.getElem?_cons_succ] at t_2
  clear r_t
  obtain ⟨pT, hpT⟩ : ∃ b, b = w.heap.size := ⟨_, rfl⟩
  rw [← hpT] at t_2
  simp only [← hpT]
  clear hpT
  go_wp2_with fail
  go_loopw [3, 13] (fun av iv wr => ∃ (i : Nat) (z : Wb U0), i ≤ nk ∧ iv = .int .i64 (i : Int) ∧ av = .int .i64 (evP L (nk : Int) i) ∧ wr = z.at) (fun _ iv _ => nk - (intOf iv).toNat)
  case atStart => exact ⟨0, y0, by omega, rfl, by rw [E0], rfl⟩
  case round =>
    obtain ⟨i, z, hi, rfl, rfl, rfl⟩ := hrel
    have i0 : (0 : Int) ≤ (i : Int) := by omega
    obtain ⟨s0, s1⟩ := EB.out i (by have := N.out; omega)
    by_cases ci : i < nk
    · have l1 : i < L.length := by have := N.out; omega
      obtain ⟨a, pr, cr2, px, cx, ph, ch, rfl, c0, c1, c2, c3, c4, x1, x2⟩ := LL.out z i l1
      have IL := Lib.hid (show i + 1 ≤ nk by omega)
      have g1 : (i : Int) < (nk : Int) := by omega
      have SX := Lib.hid (ES.out i l1)
      have SM := HC.out _ (List.getElem_mem l1)
      obtain ⟨x, hx⟩ : ∃ x, x = L[i]'l1 := ⟨_, rfl⟩
      rw [← hx] at c0 c1 c2 c3 c4 x1 x2 SX SM
      obtain ⟨rg, sp, tb, xc, xh⟩ := x
      simp only at c0 c1 c2 c3 c4 x1 x2
      have b1 := sum_bd xc (nk : Int) k0 k1 xc.length (Nat.le_refl _)
      have b2 := sum_bd xh (nk : Int) k0 k1 xh.length (Nat.le_refl _)
      have b3 := acc_bd xc xc.length (Nat.le_refl _)
      have m1 : xc.length ≤ 40 := SM.1
      have m2 : xh.length ≤ 40 := SM.2
      have mb := mul_bd (a := accP xc xc.length) (b := sumP xh (nk : Int) xh.length) (by omega) (by omega) (by omega) (by omega)
      have EK := Lib.hid (show evK (nk : Int) ⟨rg, sp, tb, xc, xh⟩ = sumP xc (nk : Int) xc.length + accP xc xc.length * sumP xh (nk : Int) xh.length from rfl)
      have X1 := Lib.hid x1
      have X2 := Lib.hid x2
      have WC := Lib.hid (fun (U : World) (b : Below z.at.heap.size z.at U) => sum_any xc px xc.length cx (nk : Int) U rfl m1 (X1.out.below b) k0 k1)
      have WH := Lib.hid (fun (U : World) (b : Below z.at.heap.size z.at U) => sum_any xh ph xh.length ch (nk : Int) U rfl m2 (X2.out.below b) k0 k1)
      obtain ⟨s, hs⟩ : ∃ s, s = evP L (nk : Int) i := ⟨_, rfl⟩
      obtain ⟨v1, hv1⟩ : ∃ s, s = sumP xc (nk : Int) xc.length := ⟨_, rfl⟩
      obtain ⟨v2, hv2⟩ : ∃ s, s = accP xc xc.length := ⟨_, rfl⟩
      obtain ⟨v3, hv3⟩ : ∃ s, s = sumP xh (nk : Int) xh.length := ⟨_, rfl⟩
      obtain ⟨v4, hv4⟩ : ∃ s, s = accP xh xh.length := ⟨_, rfl⟩
      rw [← hs] at s0 s1 SX ⊢
      rw [← hv1] at b1 EK WC
      rw [← hv2] at b3 EK WC mb
      rw [← hv3] at b2 EK WH mb
      rw [← hv4] at WH
      obtain ⟨nx, hnx⟩ : ∃ k, k = xc.length := ⟨_, rfl⟩
      obtain ⟨nh, hnh⟩ : ∃ k, k = xh.length := ⟨_, rfl⟩
      rw [← hnx] at c3 WC b1 b3
      rw [← hnh] at c4 WH b2
      rw [← hnx] at m1
      rw [← hnh] at m2
      obtain ⟨pm, hpm⟩ : ∃ q, q = v2 * v3 := ⟨_, rfl⟩
      rw [← hpm] at mb EK
      have W1 : IntKind.i64.wrap ((i : Int) + 1) = (i : Int) + 1 := IntWalk.i64_in _ ⟨by omega, by omega⟩
      have W2 : IntKind.i64.wrap (v2 * v3) = pm := by rw [← hpm]; exact IntWalk.i64_in _ ⟨by omega, by omega⟩
      have W3 : IntKind.i64.wrap (v1 + pm) = v1 + pm := IntWalk.i64_in _ ⟨by omega, by omega⟩
      have W4 : IntKind.i64.wrap (s + (v1 + pm)) = s + (v1 + pm) := IntWalk.i64_in _ ⟨by omega, by omega⟩
      clear hx hs hv1 hv2 hv3 hv4 hnx hnh b1 b2 b3 m1 m2 s0 s1 mb x1 x2 SM hi ci hpm E0
      have bz := fun y : Wb z.at => y.bel
      have e0 : ∀ y : Wb z.at, y.at.cell? (a.add (i * 5)) = some (.slice pr rg cr2) := fun y => keep_below y.bel _ _ c0
      have e1 : ∀ y : Wb z.at, y.at.cell? ⟨(a.add (i * 5)).block, (a.add (i * 5)).off + 1, none⟩ = some (.int .i64 sp) := fun y => keep_below y.bel _ _ c1
      have e2 : ∀ y : Wb z.at, y.at.cell? ⟨(a.add (i * 5)).block, (a.add (i * 5)).off + 2, none⟩ = some (.int .u64 tb) := fun y => keep_below y.bel _ _ c2
      have e3 : ∀ y : Wb z.at, y.at.cell? ⟨(a.add (i * 5)).block, (a.add (i * 5)).off + 3, none⟩ = some (.slice px nx cx) := fun y => keep_below y.bel _ _ c3
      have e4 : ∀ y : Wb z.at, y.at.cell? ⟨(a.add (i * 5)).block, (a.add (i * 5)).off + 4, none⟩ = some (.slice ph nh ch) := fun y => keep_below y.bel _ _ c4
      have T2 : ∀ y : Wb z.at, y.at.cell? ⟨pT, 2, none⟩ = some (.slice (some a) nk ck) := fun y => keep_below y.bel _ _ (t_2 z)
      clear e0 e1 e2 e3 e4 T2
      go_upto_region 5 with fail
      refine to_cls ?_
      intro U1 hU1 y1
      have r_x : ∀ q : Wb U1, Row q.at z.at.heap.size [.slice pr rg cr2, .int .i64 sp, .int .u64 tb, .slice px nx cx, .slice ph nh ch] 54 := Row.next (Row.new _ [.slice pr rg cr2, .int .i64 sp, .int .u64 tb, .slice px nx cx, .slice ph nh ch] _) hU1
      have K1 := Lib.hid (fun q : Wb U1 => ((KB.alloc (Below.refl z.at.heap.size z.at) _).trans ((hU1.mono (by simp)).trans (q.bel.mono (Nat.le_trans (by simp) hU1.size)))))
      have p_2 := fun q : Wb U1 => keep_below (K1.out q) _ _ (t_2 z)
      clear hU1
      have d3 := fun q : Wb U1 => (r_x q).cell 3
      have d4 := fun q : Wb U1 => (r_x q).cell 4
      simp only [List.getElem?_cons_zero, List.getElem?_cons_succ] at d3 d4
      clear r_x c0 c1 c2 c3 c4
      obtain ⟨pX, hpX⟩ : ∃ b, b = z.at.heap.size := ⟨_, rfl⟩
      rw [← hpX] at d3 d4
      simp only [← hpX]
      clear hpX
      go_wp2_with fail
      refine (WC.out _ (K1.out _)).mono ?_
      rintro e w2 ⟨rfl, b⟩
      obtain ⟨y2, rfl⟩ := Wb.next b
      clear b
      go_wp2_with fail
      refine (WH.out _ (K1.out _)).mono ?_
      rintro e w3 ⟨rfl, b⟩
      obtain ⟨y3, rfl⟩ := Wb.next b
      clear b
      go_wp2_with fail
      go_roundw
      case rel => exact ⟨i + 1, ⟨y3.at, z.bel.trans ((K1.out y3).mono z.size)⟩, IL.out, by go_num, by rw [SX.out, EK.out], rfl⟩
      case measure => have := IL.out; simp [intOf] <;> omega
    · have g1 : ¬ (i : Int) < (nk : Int) := by omega
      have hin : i = L.length := by have := N.out; omega
      subst hin
      have T2 : z.at.cell? ⟨pT, 2, none⟩ = some (.slice pk nk ck) := t_2 z
      clear ci hi
      go_wp2
      go_ret
      exact ⟨ret_i64 (by rw [EV.out]), KK.out z⟩
set_option maxRecDepth 100000 in
set_option maxHeartbeats 12800000 in
theorem revents_any (L : List GrN.K) (nm : ByteArray) (pc : Option Addr) (nc cc : Nat) (pk : Option Addr) (nk ck : Nat) (fa : Bool) (ck0 cco cr cad cva : Int) (pg : Option Addr) (ng cg : Nat) (w : World) (hn : nk = L.length) (h6 : nk ≤ 6) (hL : KsAt w pk L) (hc : ∀ c ∈ L, smallK c) :
    Calls Tryz.prog 9 #[.agg #[.string nm, .slice pc nc cc, .slice pk nk ck, .bool fa, .int .i64 ck0, .int .i64 cco, .int .i64 cr, .int .u64 cad, .int .u64 cva, .slice pg ng cg]] w fun e w' => e = .returned (.int .i64 (EventsS L)) ∧ Below w.heap.size w w' := by
  have N := Lib.hid hn
  have HC := Lib.hid hc
  have k0 : (0 : Int) ≤ (nk : Int) := by omega
  have k1 : (nk : Int) ≤ 6 := by omega
  have EB := Lib.hid (evP_bd L (nk : Int) k0 k1 hc)
  have ES := Lib.hid (evP_succ L (nk : Int))
  have EV := Lib.hid (show EventsS L = evP L (nk : Int) L.length by rw [EventsS, hn])
  have E0 : evP L (nk : Int) 0 = 0 := by simp [evP]
  clear hn h6 hc
  go_enter Tryz.func9, Tryz.ntmps9
  go_upto_region 1 with fail
  refine to_cls ?_
  intro U0 hU0 y0
  have r_t : ∀ z : Wb U0, Row z.at w.heap.size [.string nm, .slice pc nc cc, .slice pk nk ck, .bool fa, .int .i64 ck0, .int .i64 cco, .int .i64 cr, .int .u64 cad, .int .u64 cva, .slice pg ng cg] 29 := Row.next (Row.new _ [.string nm, .slice pc nc cc, .slice pk nk ck, .bool fa, .int .i64 ck0, .int .i64 cco, .int .i64 cr, .int .u64 cad, .int .u64 cva, .slice pg ng cg] _) hU0
  have KK := Lib.hid (KB.next (KB.alloc (Below.refl w.heap.size w) _) hU0)
  have LL := Lib.hid (fun z : Wb U0 => hL.below (KK.out z))
  clear hU0 hL
  have t_2 := fun z : Wb U0 => (r_t z).cell 2
  simp only [List.getElem?_cons_zero, List.getElem?_cons_succ] at t_2
  clear r_t
  obtain ⟨pT, hpT⟩ : ∃ b, b = w.heap.size := ⟨_, rfl⟩
  rw [← hpT] at t_2
  simp only [← hpT]
  clear hpT
  go_wp2_with fail
  go_loopw [3, 4] (fun av iv wr => ∃ (i : Nat) (z : Wb U0), i ≤ nk ∧ iv = .int .i64 (i : Int) ∧ av = .int .i64 (evP L (nk : Int) i) ∧ wr = z.at) (fun _ iv _ => nk - (intOf iv).toNat)
  case atStart => exact ⟨0, y0, by omega, rfl, by rw [E0], rfl⟩
  case round =>
    obtain ⟨i, z, hi, rfl, rfl, rfl⟩ := hrel
    have i0 : (0 : Int) ≤ (i : Int) := by omega
    obtain ⟨s0, s1⟩ := EB.out i (by have := N.out; omega)
    by_cases ci : i < nk
    · have l1 : i < L.length := by have := N.out; omega
      obtain ⟨a, pr, cr2, px, cx, ph, ch, rfl, c0, c1, c2, c3, c4, x1, x2⟩ := LL.out z i l1
      have IL := Lib.hid (show i + 1 ≤ nk by omega)
      have g1 : (i : Int) < (nk : Int) := by omega
      have SX := Lib.hid (ES.out i l1)
      have SM := HC.out _ (List.getElem_mem l1)
      obtain ⟨x, hx⟩ : ∃ x, x = L[i]'l1 := ⟨_, rfl⟩
      rw [← hx] at c0 c1 c2 c3 c4 x1 x2 SX SM
      obtain ⟨rg, sp, tb, xc, xh⟩ := x
      simp only at c0 c1 c2 c3 c4 x1 x2
      have b1 := sum_bd xc (nk : Int) k0 k1 xc.length (Nat.le_refl _)
      have b2 := sum_bd xh (nk : Int) k0 k1 xh.length (Nat.le_refl _)
      have b3 := acc_bd xc xc.length (Nat.le_refl _)
      have m1 : xc.length ≤ 40 := SM.1
      have m2 : xh.length ≤ 40 := SM.2
      have mb := mul_bd (a := accP xc xc.length) (b := sumP xh (nk : Int) xh.length) (by omega) (by omega) (by omega) (by omega)
      have EK := Lib.hid (show evK (nk : Int) ⟨rg, sp, tb, xc, xh⟩ = sumP xc (nk : Int) xc.length + accP xc xc.length * sumP xh (nk : Int) xh.length from rfl)
      have X1 := Lib.hid x1
      have X2 := Lib.hid x2
      have WC := Lib.hid (fun (U : World) (b : Below z.at.heap.size z.at U) => weigh_any xc px xc.length cx (nk : Int) U rfl m1 (X1.out.below b) k0 k1)
      have WH := Lib.hid (fun (U : World) (b : Below z.at.heap.size z.at U) => weigh_any xh ph xh.length ch (nk : Int) U rfl m2 (X2.out.below b) k0 k1)
      obtain ⟨s, hs⟩ : ∃ s, s = evP L (nk : Int) i := ⟨_, rfl⟩
      obtain ⟨v1, hv1⟩ : ∃ s, s = sumP xc (nk : Int) xc.length := ⟨_, rfl⟩
      obtain ⟨v2, hv2⟩ : ∃ s, s = accP xc xc.length := ⟨_, rfl⟩
      obtain ⟨v3, hv3⟩ : ∃ s, s = sumP xh (nk : Int) xh.length := ⟨_, rfl⟩
      obtain ⟨v4, hv4⟩ : ∃ s, s = accP xh xh.length := ⟨_, rfl⟩
      rw [← hs] at s0 s1 SX ⊢
      rw [← hv1] at b1 EK WC
      rw [← hv2] at b3 EK WC mb
      rw [← hv3] at b2 EK WH mb
      rw [← hv4] at WH
      obtain ⟨nx, hnx⟩ : ∃ k, k = xc.length := ⟨_, rfl⟩
      obtain ⟨nh, hnh⟩ : ∃ k, k = xh.length := ⟨_, rfl⟩
      rw [← hnx] at c3 WC b1 b3
      rw [← hnh] at c4 WH b2
      rw [← hnx] at m1
      rw [← hnh] at m2
      obtain ⟨pm, hpm⟩ : ∃ q, q = v2 * v3 := ⟨_, rfl⟩
      rw [← hpm] at mb EK
      have W1 : IntKind.i64.wrap ((i : Int) + 1) = (i : Int) + 1 := IntWalk.i64_in _ ⟨by omega, by omega⟩
      have W2 : IntKind.i64.wrap (v2 * v3) = pm := by rw [← hpm]; exact IntWalk.i64_in _ ⟨by omega, by omega⟩
      have W3 : IntKind.i64.wrap (s + v1) = s + v1 := IntWalk.i64_in _ ⟨by omega, by omega⟩
      have W4 : IntKind.i64.wrap (s + v1 + pm) = s + v1 + pm := IntWalk.i64_in _ ⟨by omega, by omega⟩
      clear hx hs hv1 hv2 hv3 hv4 hnx hnh b1 b2 b3 m1 m2 s0 s1 mb x1 x2 SM hi ci hpm E0
      have bz := fun y : Wb z.at => y.bel
      have e0 : ∀ y : Wb z.at, y.at.cell? (a.add (i * 5)) = some (.slice pr rg cr2) := fun y => keep_below y.bel _ _ c0
      have e1 : ∀ y : Wb z.at, y.at.cell? ⟨(a.add (i * 5)).block, (a.add (i * 5)).off + 1, none⟩ = some (.int .i64 sp) := fun y => keep_below y.bel _ _ c1
      have e2 : ∀ y : Wb z.at, y.at.cell? ⟨(a.add (i * 5)).block, (a.add (i * 5)).off + 2, none⟩ = some (.int .u64 tb) := fun y => keep_below y.bel _ _ c2
      have e3 : ∀ y : Wb z.at, y.at.cell? ⟨(a.add (i * 5)).block, (a.add (i * 5)).off + 3, none⟩ = some (.slice px nx cx) := fun y => keep_below y.bel _ _ c3
      have e4 : ∀ y : Wb z.at, y.at.cell? ⟨(a.add (i * 5)).block, (a.add (i * 5)).off + 4, none⟩ = some (.slice ph nh ch) := fun y => keep_below y.bel _ _ c4
      have T2 : ∀ y : Wb z.at, y.at.cell? ⟨pT, 2, none⟩ = some (.slice (some a) nk ck) := fun y => keep_below y.bel _ _ (t_2 z)
      clear c0 c1 c2 c3 c4
      have WC1 := Lib.hid (fun q : Wb z.at => WC.out q.at q.bel)
      go_upto_region 5 with fail
      refine wp_region_wb (by kernel_rfl) (by kernel_rfl) ?_
      repeat (go_big_quiet_step ((go_at_call 23; exact Calls.wb (WC1.out _))))
      refine wpQuiet_nil ?_
      rintro _ ⟨y1, rfl⟩
      go_wp2_with fail
      have WH1 := Lib.hid (fun q : Wb y1.at => WH.out q.at (y1.bel.trans (q.bel.mono y1.size)))
      have f3 := y1.lift e3
      have f4 := y1.lift e4
      have f2 := y1.lift T2
      clear e0 e1 e2 e3 e4 T2
      refine wp_region_wb (by kernel_rfl) (by kernel_rfl) ?_
      repeat (go_big_quiet_step ((go_at_call 23; exact Calls.wb (WH1.out _))))
      refine wpQuiet_nil ?_
      rintro _ ⟨y2, rfl⟩
      go_wp2_with fail
      go_roundw
      case rel => exact ⟨i + 1, ⟨y2.at, z.bel.trans ((y1.bel.trans (y2.bel.mono y1.size)).mono z.size)⟩, IL.out, by go_num, by rw [SX.out, EK.out, Int.add_assoc], rfl⟩
      case measure => have := IL.out; simp [intOf] <;> omega
    · have g1 : ¬ (i : Int) < (nk : Int) := by omega
      have hin : i = L.length := by have := N.out; omega
      subst hin
      have T2 : z.at.cell? ⟨pT, 2, none⟩ = some (.slice pk nk ck) := t_2 z
      clear ci hi
      go_wp2
      go_ret
      exact ⟨ret_i64 (by rw [EV.out]), KK.out z⟩
end Go.Proofs.YtlflknfkenfpiaaGreatDoor
namespace GrN
open GrF
theorem down_mod (x : Int) (n : Nat) (hn : n ≤ 62) (h0 : 0 ≤ x) (h1 : x < 18446744073709551616) : down x n = x - x % (2 ^ n : Nat) := by
  obtain ⟨a, rfl⟩ := Int.eq_ofNat_of_zero_le h0
  have e : downN a n = a / 2 ^ n * 2 ^ n := by
    apply Nat.eq_of_testBit_eq
    intro i
    rw [downN, num_testBit, Nat.mul_comm, Nat.testBit_two_pow_mul]
    rw [Int.toNat_natCast]
    by_cases c : i < n
    · have c2 : ¬ n ≤ i := by omega
      simp [c, c2]
    · have c2 : n ≤ i := by omega
      rw [Nat.testBit_div_two_pow, Nat.sub_add_cancel c2]
      by_cases d : i < 64
      · simp [c, c2, d]
      · simp [d, tb64 (show a < 18446744073709551616 by omega) (show 64 ≤ i by omega)]
  rw [down, Int.toNat_natCast, e]
  have e2 := Nat.div_add_mod a (2 ^ n)
  rw [Nat.mul_comm] at e2
  have e3 : ((a / 2 ^ n * 2 ^ n : Nat) : Int) = (a : Int) - ((a % 2 ^ n : Nat) : Int) := by omega
  rw [e3]; simp
theorem aligned_mod (x : Int) (n : Nat) (hn : n ≤ 62) (h0 : 0 ≤ x) (h1 : x < 18446744073709551616) : alignedB x n = (x % (2 ^ n : Nat) == 0) := by
  rw [alignedB, down_mod x n hn h0 h1, Bool.eq_iff_iff]
  simp only [beq_iff_eq]
  omega
theorem aligned8 (va : Int) (h0 : 0 ≤ va) (h1 : va < 18446744073709551616) : GrF.alignedB va 3 = (va % 8 == 0) := aligned_mod va 3 (by omega) h0 h1
end GrN
namespace Go.Proofs.YtlflknfkenfpiaaGreatDoor
open Go.RowKit GrN
def codeA (a : Int) : Int := if GrF.alignedB a 3 = true then (if a < 4294967296 then 0 else 1) else 60
theorem check_any (a : Int) (w : World) (h0 : 0 ≤ a) (h1 : a < 18446744073709551616) :
    Calls Tryz.prog 31 #[.int .u64 a] w fun e w' => e = .returned (.int .i64 (codeA a)) ∧ w = w' := by
  have AL := Lib.hid (fun w => aligned_any a 3 w h0 h1 (by omega) (by omega))
  unfold codeA
  cases c : GrF.alignedB a 3 with
  | false =>
    rw [c] at AL
    clear c
    go_enter Tryz.func31, Tryz.ntmps31
    go_wp2_with fail
    refine (AL.out _).mono ?_
    rintro e w1 ⟨rfl, rfl⟩
    go_wp2
    go_ret
    exact ⟨by simp, rfl⟩
  | true =>
    rw [c] at AL
    clear c
    by_cases d : a < 4294967296
    · have e0 : decide (4294967296 ≤ a) = false := by simp; omega
      rw [if_pos d]
      clear d
      go_enter Tryz.func31, Tryz.ntmps31
      go_wp2_with fail
      refine (AL.out _).mono ?_
      rintro e w1 ⟨rfl, rfl⟩
      go_wp2
      go_ret
      exact ⟨by simp, rfl⟩
    · have e0 : decide (4294967296 ≤ a) = true := by simp; omega
      rw [if_neg d]
      clear d
      go_enter Tryz.func31, Tryz.ntmps31
      go_wp2_with fail
      refine (AL.out _).mono ?_
      rintro e w1 ⟨rfl, rfl⟩
      go_wp2
      go_ret
      exact ⟨by simp, rfl⟩
theorem rcheck_any (a : Int) (w : World) (h0 : 0 ≤ a) (h1 : a < 18446744073709551616) :
    Calls Tryz.prog 19 #[.int .u64 a] w fun e w' => e = .returned (.int .i64 (codeA a)) ∧ w = w' := by
  have e8 : GrF.alignedB a 3 = (a % 8 == 0) := GrN.aligned8 a h0 h1
  unfold codeA
  rw [e8]
  clear e8
  by_cases c : a % 8 = 0
  · have cb : (a % 8 == 0) = true := by simpa using c
    have cn : (a % 8 != 0) = false := by simpa using c
    rw [cb, if_pos rfl]
    clear c
    by_cases d : a < 4294967296
    · have e0 : decide (4294967296 ≤ a) = false := by simp; omega
      rw [if_pos d]
      clear d
      go_enter Tryz.func19, Tryz.ntmps19
      go_wp2
      go_ret
      exact ⟨by simp, rfl⟩
    · have e0 : decide (4294967296 ≤ a) = true := by simp; omega
      rw [if_neg d]
      clear d
      go_enter Tryz.func19, Tryz.ntmps19
      go_wp2
      go_ret
      exact ⟨by simp, rfl⟩
  · have cb : (a % 8 == 0) = false := by simpa using c
    have cn : (a % 8 != 0) = true := by simpa using c
    rw [cb, if_neg (by decide)]
    clear c
    go_enter Tryz.func19, Tryz.ntmps19
    go_wp2
    go_ret
    exact ⟨by simp, rfl⟩
end Go.Proofs.YtlflknfkenfpiaaGreatDoor
