/-
  Texts of one claim, merged.
-/
import Derived.Test.YtlflknfkenfpiaaGreatDoorE1
set_option linter.unusedSimpArgs false
set_option linter.unusedVariables false
namespace GrN
def accB (x : GrI.I) : Bool := loadB x.op || storeB x.op
def sumP (L : List GrI.I) (cores : Int) (i : Nat) : Int := ((L.take i).map fun x => eventsS x cores).sum
def accP (L : List GrI.I) (i : Nat) : Int := ((L.take i).map fun x => if accB x = true then (1 : Int) else 0).sum
theorem take_succ' {α : Type} (L : List α) (i : Nat) (h : i < L.length) : L.take (i + 1) = L.take i ++ [L[i]] := by
  rw [List.take_add_one, List.getElem?_eq_getElem h]
  rfl
theorem sum_succ (L : List GrI.I) (cores : Int) (i : Nat) (h : i < L.length) : sumP L cores (i + 1) = sumP L cores i + eventsS L[i] cores := by
  rw [sumP, sumP, take_succ' L i h, List.map_append, List.sum_append]
  simp only [List.map_cons, List.map_nil, List.sum_cons, List.sum_nil, Int.add_zero]
theorem acc_succ (L : List GrI.I) (i : Nat) (h : i < L.length) : accP L (i + 1) = accP L i + if accB L[i] = true then 1 else 0 := by
  rw [accP, accP, take_succ' L i h, List.map_append, List.sum_append]
  simp only [List.map_cons, List.map_nil, List.sum_cons, List.sum_nil, Int.add_zero]
theorem events_bd (x : GrI.I) (cores : Int) (h0 : 0 ≤ cores) (h1 : cores ≤ 6) : 0 ≤ eventsS x cores ∧ eventsS x cores ≤ 7 := by
  unfold eventsS
  split
  · omega
  · split
    · split <;> omega
    · omega
theorem sum_bd (L : List GrI.I) (cores : Int) (h0 : 0 ≤ cores) (h1 : cores ≤ 6) : ∀ i : Nat, i ≤ L.length → 0 ≤ sumP L cores i ∧ sumP L cores i ≤ 7 * (i : Int)
  | 0, _ => by simp [sumP]
  | i + 1, h => by
    have ih := sum_bd L cores h0 h1 i (by omega)
    have e := events_bd L[i] cores h0 h1
    rw [sum_succ L cores i (by omega)]
    omega
theorem acc_bd (L : List GrI.I) : ∀ i : Nat, i ≤ L.length → 0 ≤ accP L i ∧ accP L i ≤ (i : Int)
  | 0, _ => by simp [accP]
  | i + 1, h => by
    have ih := acc_bd L i (by omega)
    rw [acc_succ L i (by omega)]
    split <;> omega
def codeF (rt : GrI.I → Bool) (L : List GrI.I) (h : Bool) (j : Nat) : Int := match L[j]? with
  | some x => instrS (rt x) x.op x.imm ((L.length : Int) - (j : Int)) h
  | none => 0
theorem codeF_at (rt : GrI.I → Bool) (L : List GrI.I) (h : Bool) (j : Nat) (hj : j < L.length) : codeF rt L h j = instrS (rt L[j]) L[j].op L[j].imm ((L.length : Int) - (j : Int)) h := by
  unfold codeF
  rw [List.getElem?_eq_getElem hj]
end GrN
namespace Go.Proofs.YtlflknfkenfpiaaGreatDoor
open Go.RowKit GrN
def XsAt (W : World) (p : Option Addr) (L : List GrI.I) : Prop := ∀ j (h : j < L.length), ∃ a, p = some a ∧ W.cell? (a.add (j * 6)) = some (.int .i64 (L[j]'h).op) ∧ W.cell? ⟨(a.add (j * 6)).block, (a.add (j * 6)).off + 1, none⟩ = some (.int .i64 (L[j]'h).d) ∧ W.cell? ⟨(a.add (j * 6)).block, (a.add (j * 6)).off + 2, none⟩ = some (.int .i64 (L[j]'h).n) ∧ W.cell? ⟨(a.add (j * 6)).block, (a.add (j * 6)).off + 3, none⟩ = some (.int .i64 (L[j]'h).m) ∧ W.cell? ⟨(a.add (j * 6)).block, (a.add (j * 6)).off + 4, none⟩ = some (.int .i64 (L[j]'h).imm) ∧ W.cell? ⟨(a.add (j * 6)).block, (a.add (j * 6)).off + 5, none⟩ = some (.int .i64 (L[j]'h).kind)
theorem XsAt.below {W U : World} {p : Option Addr} {L : List GrI.I} (h : XsAt W p L) (b : Below W.heap.size W U) : XsAt U p L := fun j hj => by
  obtain ⟨a, e, c0, c1, c2, c3, c4, c5⟩ := h j hj
  exact ⟨a, e, keep_below b _ _ c0, keep_below b _ _ c1, keep_below b _ _ c2, keep_below b _ _ c3, keep_below b _ _ c4, keep_below b _ _ c5⟩
set_option maxRecDepth 100000 in
set_option maxHeartbeats 6400000 in
theorem events_any (op d nn m imm kind cores : Int) (w : World) (k0 : 0 ≤ cores) (k1 : cores ≤ 6) :
    Calls Tryz.prog 39 #[.agg #[.int .i64 op, .int .i64 d, .int .i64 nn, .int .i64 m, .int .i64 imm, .int .i64 kind], .int .i64 cores] w fun e w' => e = .returned (.int .i64 (eventsS ⟨op, d, nn, m, imm, kind⟩ cores)) ∧ Below w.heap.size w w' := by
  obtain ⟨a0, a1, a2, a3, a4, a5, kb⟩ := ibox6 w op d nn m imm kind _ rfl
  have KB := Lib.hid kb
  have AA := Lib.hid (fun U => access_any op d nn m imm kind U)
  have W1 : IntKind.i64.wrap (1 + cores) = 1 + cores := IntWalk.i64_in _ ⟨by omega, by omega⟩
  clear kb k0 k1
  cases ca : (loadB op || storeB op) with
  | true =>
    have E := Lib.hid (show eventsS ⟨op, d, nn, m, imm, kind⟩ cores = 3 by simp [eventsS, *])
    rw [ca] at AA
    clear ca
    go_enter Tryz.func39, Tryz.ntmps39
    go_upto_region 1 with fail
    obtain ⟨x0, hx0⟩ : ∃ x : Wb (w.alloc (.cells #[.int .i64 op, .int .i64 d, .int .i64 nn, .int .i64 m, .int .i64 imm, .int .i64 kind] 84)), w.alloc (.cells #[.int .i64 op, .int .i64 d, .int .i64 nn, .int .i64 m, .int .i64 imm, .int .i64 kind] 84) = x.at := ⟨⟨_, Below.refl _ _⟩, rfl⟩
    rw [hx0]
    clear hx0
    go_wp2_with fail
    refine (AA.out _).mono ?_
    rintro e w1 ⟨rfl, b⟩
    obtain ⟨x1, rfl⟩ := Wb.next b
    clear b
    go_wp2
    go_ret
    exact ⟨ret_i64 (by rw [E.out]), KB.out x1⟩
  | false =>
    by_cases e21 : op = 21
    · subst e21
      by_cases g : kind < 4
      · have E := Lib.hid (show eventsS ⟨21, d, nn, m, imm, kind⟩ cores = 1 + cores by simp [eventsS, *])
        rw [ca] at AA
        clear ca
        go_enter Tryz.func39, Tryz.ntmps39
        go_upto_region 1 with fail
        obtain ⟨x0, hx0⟩ : ∃ x : Wb (w.alloc (.cells #[.int .i64 21, .int .i64 d, .int .i64 nn, .int .i64 m, .int .i64 imm, .int .i64 kind] 84)), w.alloc (.cells #[.int .i64 21, .int .i64 d, .int .i64 nn, .int .i64 m, .int .i64 imm, .int .i64 kind] 84) = x.at := ⟨⟨_, Below.refl _ _⟩, rfl⟩
        rw [hx0]
        clear hx0
        go_wp2_with fail
        refine (AA.out _).mono ?_
        rintro e w1 ⟨rfl, b⟩
        obtain ⟨x1, rfl⟩ := Wb.next b
        clear b
        go_wp2
        go_ret
        exact ⟨ret_i64 (by rw [E.out]), KB.out x1⟩
      · have E := Lib.hid (show eventsS ⟨21, d, nn, m, imm, kind⟩ cores = 2 by simp [eventsS, *])
        rw [ca] at AA
        clear ca
        go_enter Tryz.func39, Tryz.ntmps39
        go_upto_region 1 with fail
        obtain ⟨x0, hx0⟩ : ∃ x : Wb (w.alloc (.cells #[.int .i64 21, .int .i64 d, .int .i64 nn, .int .i64 m, .int .i64 imm, .int .i64 kind] 84)), w.alloc (.cells #[.int .i64 21, .int .i64 d, .int .i64 nn, .int .i64 m, .int .i64 imm, .int .i64 kind] 84) = x.at := ⟨⟨_, Below.refl _ _⟩, rfl⟩
        rw [hx0]
        clear hx0
        go_wp2_with fail
        refine (AA.out _).mono ?_
        rintro e w1 ⟨rfl, b⟩
        obtain ⟨x1, rfl⟩ := Wb.next b
        clear b
        go_wp2
        go_ret
        exact ⟨ret_i64 (by rw [E.out]), KB.out x1⟩
    · have q21 : (op == 21) = false := by simpa using e21
      have E := Lib.hid (show eventsS ⟨op, d, nn, m, imm, kind⟩ cores = 0 by simp [eventsS, *])
      rw [ca] at AA
      clear ca
      go_enter Tryz.func39, Tryz.ntmps39
      go_upto_region 1 with fail
      obtain ⟨x0, hx0⟩ : ∃ x : Wb (w.alloc (.cells #[.int .i64 op, .int .i64 d, .int .i64 nn, .int .i64 m, .int .i64 imm, .int .i64 kind] 84)), w.alloc (.cells #[.int .i64 op, .int .i64 d, .int .i64 nn, .int .i64 m, .int .i64 imm, .int .i64 kind] 84) = x.at := ⟨⟨_, Below.refl _ _⟩, rfl⟩
      rw [hx0]
      clear hx0
      go_wp2_with fail
      refine (AA.out _).mono ?_
      rintro e w1 ⟨rfl, b⟩
      obtain ⟨x1, rfl⟩ := Wb.next b
      clear b
      go_wp2
      go_ret
      exact ⟨ret_i64 (by rw [E.out]), KB.out x1⟩
set_option maxRecDepth 100000 in
set_option maxHeartbeats 12800000 in
theorem sum_any (L : List GrI.I) (p : Option Addr) (n c : Nat) (cores : Int) (w : World) (hn : n = L.length) (h40 : n ≤ 40) (hL : XsAt w p L) (k0 : 0 ≤ cores) (k1 : cores ≤ 6) :
    Calls Tryz.prog 22 #[.slice p n c, .int .i64 cores] w fun e w' => e = .returned (.tuple #[.int .i64 (sumP L cores L.length), .int .i64 (accP L L.length)]) ∧ Below w.heap.size w w' := by
  have N := Lib.hid hn
  have XL := Lib.hid hL
  have SB := Lib.hid (sum_bd L cores k0 k1)
  have AB := Lib.hid (acc_bd L)
  have K := Lib.hid (And.intro k0 k1)
  have S0 : sumP L cores 0 = 0 := by simp [sumP]
  have A0 : accP L 0 = 0 := by simp [accP]
  have SS := Lib.hid (sum_succ L cores)
  have AS := Lib.hid (acc_succ L)
  have m9 : (n : Int) ≤ 40 := by omega
  have m0 : (0 : Int) ≤ (n : Int) := by omega
  clear hn hL h40 k0 k1
  go_enter Tryz.func22, Tryz.ntmps22
  refine to_cls ?_
  intro U0 hU0 y0
  have KK := Lib.hid (KB.next (Below.refl w.heap.size w) hU0)
  clear hU0
  go_wp2_with fail
  go_loopw [6, 7, 12] (fun sv av iv wr => ∃ (i : Nat) (z : Wb U0), i ≤ n ∧ iv = .int .i64 (i : Int) ∧ sv = .int .i64 (sumP L cores i) ∧ av = .int .i64 (accP L i) ∧ wr = z.at) (fun _ _ iv _ => n - (intOf iv).toNat)
  case atStart => exact ⟨0, y0, by omega, rfl, by rw [S0], by rw [A0], rfl⟩
  case round =>
    obtain ⟨i, z, hi, rfl, rfl, rfl, rfl⟩ := hrel
    have i0 : (0 : Int) ≤ (i : Int) := by omega
    obtain ⟨s0, s1⟩ := SB.out i (by have := N.out; omega)
    obtain ⟨v0, v1⟩ := AB.out i (by have := N.out; omega)
    by_cases ci : i < n
    · have l1 : i < L.length := by have := N.out; omega
      obtain ⟨a, rfl, c0, c1, c2, c3, c4, c5⟩ := XL.out i l1
      have IL := Lib.hid (show i + 1 ≤ n by omega)
      have g1 : (i : Int) < (n : Int) := by omega
      have SX := Lib.hid (SS.out i l1)
      have AX := Lib.hid (AS.out i l1)
      obtain ⟨x, hx⟩ : ∃ x, x = L[i]'l1 := ⟨_, rfl⟩
      rw [← hx] at c0 c1 c2 c3 c4 c5 SX AX
      obtain ⟨op, d, nn, m, imm, kind⟩ := x
      simp only at c0 c1 c2 c3 c4 c5
      obtain ⟨s, hs⟩ : ∃ s, s = sumP L cores i := ⟨_, rfl⟩
      obtain ⟨ac, hac⟩ : ∃ s, s = accP L i := ⟨_, rfl⟩
      rw [← hs] at s0 s1 SX ⊢
      rw [← hac] at v0 v1 AX ⊢
      have bk := fun y : Wb U0 => (KK.out y)
      have e0 : ∀ y : Wb U0, y.at.cell? (a.add (i * 6)) = some (.int .i64 op) := fun y => keep_below (bk y) _ _ c0
      have e1 : ∀ y : Wb U0, y.at.cell? ⟨(a.add (i * 6)).block, (a.add (i * 6)).off + 1, none⟩ = some (.int .i64 d) := fun y => keep_below (bk y) _ _ c1
      have e2 : ∀ y : Wb U0, y.at.cell? ⟨(a.add (i * 6)).block, (a.add (i * 6)).off + 2, none⟩ = some (.int .i64 nn) := fun y => keep_below (bk y) _ _ c2
      have e3 : ∀ y : Wb U0, y.at.cell? ⟨(a.add (i * 6)).block, (a.add (i * 6)).off + 3, none⟩ = some (.int .i64 m) := fun y => keep_below (bk y) _ _ c3
      have e4 : ∀ y : Wb U0, y.at.cell? ⟨(a.add (i * 6)).block, (a.add (i * 6)).off + 4, none⟩ = some (.int .i64 imm) := fun y => keep_below (bk y) _ _ c4
      have e5 : ∀ y : Wb U0, y.at.cell? ⟨(a.add (i * 6)).block, (a.add (i * 6)).off + 5, none⟩ = some (.int .i64 kind) := fun y => keep_below (bk y) _ _ c5
      have W1 : IntKind.i64.wrap ((i : Int) + 1) = (i : Int) + 1 := IntWalk.i64_in _ ⟨by omega, by omega⟩
      clear c0 c1 c2 c3 c4 c5 hx hs hac ci hi bk S0 A0
      have EA := Lib.hid (fun U => events_any op d nn m imm kind cores U K.out.1 K.out.2)
      have EB := events_bd ⟨op, d, nn, m, imm, kind⟩ cores K.out.1 K.out.2
      have AA := Lib.hid (fun U => access_any op d nn m imm kind U)
      obtain ⟨ev, hev⟩ : ∃ ev, ev = eventsS ⟨op, d, nn, m, imm, kind⟩ cores := ⟨_, rfl⟩
      rw [← hev] at EA EB
      have EV := Lib.hid hev.symm
      clear hev
      have W2 : IntKind.i64.wrap (s + ev) = s + ev := IntWalk.i64_in _ ⟨by omega, by omega⟩
      have W3 : IntKind.i64.wrap (ac + 1) = ac + 1 := IntWalk.i64_in _ ⟨by omega, by omega⟩
      clear EB s0 s1 v0 v1
      go_upto_region 5 with fail
      refine to_cls ?_
      intro U1 hU1 y1
      have r_x : ∀ q : Wb U1, Row q.at z.at.heap.size [.int .i64 op, .int .i64 d, .int .i64 nn, .int .i64 m, .int .i64 imm, .int .i64 kind] 84 := Row.next (Row.new _ [.int .i64 op, .int .i64 d, .int .i64 nn, .int .i64 m, .int .i64 imm, .int .i64 kind] _) hU1
      have K1 := Lib.hid (fun q : Wb U1 => ((KB.alloc (Below.refl z.at.heap.size z.at) _).trans ((hU1.mono (by simp)).trans (q.bel.mono (Nat.le_trans (by simp) hU1.size)))))
      clear hU1
      have d0 := fun q : Wb U1 => (r_x q).cell 0
      have d1 := fun q : Wb U1 => (r_x q).cell 1
      have d2 := fun q : Wb U1 => (r_x q).cell 2
      have d3 := fun q : Wb U1 => (r_x q).cell 3
      have d4 := fun q : Wb U1 => (r_x q).cell 4
      have d5 := fun q : Wb U1 => (r_x q).cell 5
      simp only [List.getElem?_cons_zero, List.getElem?_cons_succ] at d0 d1 d2 d3 d4 d5
      clear r_x e0 e1 e2 e3 e4 e5
      obtain ⟨pX, hpX⟩ : ∃ b, b = z.at.heap.size := ⟨_, rfl⟩
      rw [← hpX] at d0 d1 d2 d3 d4 d5
      simp only [← hpX]
      clear hpX
      go_wp2_with fail
      refine (EA.out _).mono ?_
      rintro e w2 ⟨rfl, b⟩
      obtain ⟨y2, rfl⟩ := Wb.next b
      clear b
      go_wp2_with fail
      cases ca : (loadB op || storeB op) with
      | true =>
        rw [ca] at AA
        have AV := Lib.hid (show (if accB ⟨op, d, nn, m, imm, kind⟩ = true then (1 : Int) else 0) = 1 by simp [accB, ca])
        clear ca
        refine (AA.out _).mono ?_
        rintro e w3 ⟨rfl, b⟩
        obtain ⟨y3, rfl⟩ := Wb.next b
        clear b
        go_wp2_with fail
        go_roundw
        case rel => exact ⟨i + 1, ⟨y3.at, z.bel.trans ((K1.out y3).mono z.size)⟩, IL.out, by go_num, by rw [SX.out, EV.out], by rw [AX.out, AV.out], rfl⟩
        case measure => have := IL.out; simp [intOf] <;> omega
      | false =>
        rw [ca] at AA
        have AV := Lib.hid (show (if accB ⟨op, d, nn, m, imm, kind⟩ = true then (1 : Int) else 0) = 0 by simp [accB, ca])
        clear ca
        refine (AA.out _).mono ?_
        rintro e w3 ⟨rfl, b⟩
        obtain ⟨y3, rfl⟩ := Wb.next b
        clear b
        go_wp2_with fail
        go_roundw
        case rel => exact ⟨i + 1, ⟨y3.at, z.bel.trans ((K1.out y3).mono z.size)⟩, IL.out, by go_num, by rw [SX.out, EV.out], by rw [AX.out, AV.out, Int.add_zero], rfl⟩
        case measure => have := IL.out; simp [intOf] <;> omega
    · have g1 : ¬ (i : Int) < (n : Int) := by omega
      have hin : i = L.length := by have := N.out; omega
      subst hin
      clear ci hi
      go_wp2
      refine bodyPost_ret (v := .tuple #[.int .i64 (sumP L cores L.length), .int .i64 (accP L L.length)]) (by simp [results, Tryz.results22, go_sem, *]) rfl ⟨rfl, KK.out z⟩
set_option maxRecDepth 100000 in
set_option maxHeartbeats 12800000 in
theorem weigh_any (L : List GrI.I) (p : Option Addr) (n c : Nat) (cores : Int) (w : World) (hn : n = L.length) (h40 : n ≤ 40) (hL : XsAt w p L) (k0 : 0 ≤ cores) (k1 : cores ≤ 6) :
    Calls Tryz.prog 23 #[.slice p n c, .int .i64 cores] w fun e w' => e = .returned (.tuple #[.int .i64 (sumP L cores L.length), .int .i64 (accP L L.length)]) ∧ Below w.heap.size w w' := by
  have N := Lib.hid hn
  have XL := Lib.hid hL
  have SB := Lib.hid (sum_bd L cores k0 k1)
  have AB := Lib.hid (acc_bd L)
  have K := Lib.hid (And.intro k0 k1)
  have S0 : sumP L cores 0 = 0 := by simp [sumP]
  have A0 : accP L 0 = 0 := by simp [accP]
  have SS := Lib.hid (sum_succ L cores)
  have AS := Lib.hid (acc_succ L)
  have m9 : (n : Int) ≤ 40 := by omega
  have m0 : (0 : Int) ≤ (n : Int) := by omega
  clear hn hL h40 k0 k1
  go_enter Tryz.func23, Tryz.ntmps23
  refine to_cls ?_
  intro U0 hU0 y0
  have KK := Lib.hid (KB.next (Below.refl w.heap.size w) hU0)
  clear hU0
  go_wp2_with fail
  go_loopw [6, 7, 8] (fun sv av iv wr => ∃ (i : Nat) (z : Wb U0), i ≤ n ∧ iv = .int .i64 (i : Int) ∧ sv = .int .i64 (sumP L cores i) ∧ av = .int .i64 (accP L i) ∧ wr = z.at) (fun _ _ iv _ => n - (intOf iv).toNat)
  case atStart => exact ⟨0, y0, by omega, rfl, by rw [S0], by rw [A0], rfl⟩
  case round =>
    obtain ⟨i, z, hi, rfl, rfl, rfl, rfl⟩ := hrel
    have i0 : (0 : Int) ≤ (i : Int) := by omega
    obtain ⟨s0, s1⟩ := SB.out i (by have := N.out; omega)
    obtain ⟨v0, v1⟩ := AB.out i (by have := N.out; omega)
    by_cases ci : i < n
    · have l1 : i < L.length := by have := N.out; omega
      obtain ⟨a, rfl, c0, c1, c2, c3, c4, c5⟩ := XL.out i l1
      have IL := Lib.hid (show i + 1 ≤ n by omega)
      have g1 : (i : Int) < (n : Int) := by omega
      have SX := Lib.hid (SS.out i l1)
      have AX := Lib.hid (AS.out i l1)
      obtain ⟨x, hx⟩ : ∃ x, x = L[i]'l1 := ⟨_, rfl⟩
      rw [← hx] at c0 c1 c2 c3 c4 c5 SX AX
      obtain ⟨op, d, nn, m, imm, kind⟩ := x
      simp only at c0 c1 c2 c3 c4 c5
      obtain ⟨s, hs⟩ : ∃ s, s = sumP L cores i := ⟨_, rfl⟩
      obtain ⟨ac, hac⟩ : ∃ s, s = accP L i := ⟨_, rfl⟩
      rw [← hs] at s0 s1 SX ⊢
      rw [← hac] at v0 v1 AX ⊢
      have bk := fun y : Wb U0 => (KK.out y)
      have e0 : ∀ y : Wb U0, y.at.cell? (a.add (i * 6)) = some (.int .i64 op) := fun y => keep_below (bk y) _ _ c0
      have e1 : ∀ y : Wb U0, y.at.cell? ⟨(a.add (i * 6)).block, (a.add (i * 6)).off + 1, none⟩ = some (.int .i64 d) := fun y => keep_below (bk y) _ _ c1
      have e2 : ∀ y : Wb U0, y.at.cell? ⟨(a.add (i * 6)).block, (a.add (i * 6)).off + 2, none⟩ = some (.int .i64 nn) := fun y => keep_below (bk y) _ _ c2
      have e3 : ∀ y : Wb U0, y.at.cell? ⟨(a.add (i * 6)).block, (a.add (i * 6)).off + 3, none⟩ = some (.int .i64 m) := fun y => keep_below (bk y) _ _ c3
      have e4 : ∀ y : Wb U0, y.at.cell? ⟨(a.add (i * 6)).block, (a.add (i * 6)).off + 4, none⟩ = some (.int .i64 imm) := fun y => keep_below (bk y) _ _ c4
      have e5 : ∀ y : Wb U0, y.at.cell? ⟨(a.add (i * 6)).block, (a.add (i * 6)).off + 5, none⟩ = some (.int .i64 kind) := fun y => keep_below (bk y) _ _ c5
      have W1 : IntKind.i64.wrap ((i : Int) + 1) = (i : Int) + 1 := IntWalk.i64_in _ ⟨by omega, by omega⟩
      clear c0 c1 c2 c3 c4 c5 hx hs hac ci hi bk S0 A0
      have LA := Lib.hid (fun U => pload_any op d nn m imm kind U)
      have SA := Lib.hid (fun U => pstore_any op d nn m imm kind U)
      have k0 := K.out.1
      have k1 := K.out.2
      have W2 : IntKind.i64.wrap (s + 3) = s + 3 := IntWalk.i64_in _ ⟨by omega, by omega⟩
      have W3 : IntKind.i64.wrap (ac + 1) = ac + 1 := IntWalk.i64_in _ ⟨by omega, by omega⟩
      have W4 : IntKind.i64.wrap (s + cores) = s + cores := IntWalk.i64_in _ ⟨by omega, by omega⟩
      have W5 : IntKind.i64.wrap (s + cores + 1) = s + cores + 1 := IntWalk.i64_in _ ⟨by omega, by omega⟩
      have W6 : IntKind.i64.wrap (s + 2) = s + 2 := IntWalk.i64_in _ ⟨by omega, by omega⟩
      clear s0 s1 v0 v1 k0 k1
      cases cl : loadB op with
      | true =>
        have q21 : (op == 21) = false := by simp [loadB] at cl; simp; omega
        have EV := Lib.hid (show s + eventsS ⟨op, d, nn, m, imm, kind⟩ cores = s + 3 by simp [eventsS, *])
        have AV := Lib.hid (show ac + (if accB ⟨op, d, nn, m, imm, kind⟩ = true then (1 : Int) else 0) = ac + 1 by simp [accB, *])
        rw [cl] at LA
        clear cl
        go_wp2_with fail
        refine (LA.out _).mono ?_
        rintro e w2 ⟨rfl, b⟩
        obtain ⟨y2, rfl⟩ := Wb.next b
        clear b
        go_wp2_with fail
        go_roundw
        case rel => exact ⟨i + 1, y2, IL.out, by go_num, by rw [SX.out, EV.out], by rw [AX.out, AV.out], rfl⟩
        case measure => have := IL.out; simp [intOf] <;> omega
      | false =>
        cases cs : storeB op with
        | true =>
          have q21 : (op == 21) = false := by simp [storeB] at cs; simp; omega
          have EV := Lib.hid (show s + eventsS ⟨op, d, nn, m, imm, kind⟩ cores = s + 3 by simp [eventsS, *])
          have AV := Lib.hid (show ac + (if accB ⟨op, d, nn, m, imm, kind⟩ = true then (1 : Int) else 0) = ac + 1 by simp [accB, *])
          rw [cl] at LA
          rw [cs] at SA
          clear cl cs
          go_wp2_with fail
          refine (LA.out _).mono ?_
          rintro e w2 ⟨rfl, b⟩
          obtain ⟨y2, rfl⟩ := Wb.next b
          clear b
          go_wp2_with fail
          refine (SA.out _).mono ?_
          rintro e w3 ⟨rfl, b⟩
          obtain ⟨y3, rfl⟩ := Wb.next b
          clear b
          go_wp2_with fail
          go_roundw
          case rel => exact ⟨i + 1, y3, IL.out, by go_num, by rw [SX.out, EV.out], by rw [AX.out, AV.out], rfl⟩
          case measure => have := IL.out; simp [intOf] <;> omega
        | false =>
          by_cases e21 : op = 21
          · subst e21
            by_cases g : kind < 4
            · have EV := Lib.hid (show s + eventsS ⟨21, d, nn, m, imm, kind⟩ cores = s + cores + 1 by simp [eventsS, *] <;> omega)
              have AV := Lib.hid (show ac + (if accB ⟨21, d, nn, m, imm, kind⟩ = true then (1 : Int) else 0) = ac by simp [accB, *])
              rw [cl] at LA
              rw [cs] at SA
              clear cl cs
              go_wp2_with fail
              refine (LA.out _).mono ?_
              rintro e w2 ⟨rfl, b⟩
              obtain ⟨y2, rfl⟩ := Wb.next b
              clear b
              go_wp2_with fail
              refine (SA.out _).mono ?_
              rintro e w3 ⟨rfl, b⟩
              obtain ⟨y3, rfl⟩ := Wb.next b
              clear b
              go_wp2_with fail
              go_roundw
              case rel => exact ⟨i + 1, y3, IL.out, by go_num, by rw [SX.out, EV.out], by rw [AX.out, AV.out], rfl⟩
              case measure => have := IL.out; simp [intOf] <;> omega
            · have EV := Lib.hid (show s + eventsS ⟨21, d, nn, m, imm, kind⟩ cores = s + 2 by simp [eventsS, *])
              have AV := Lib.hid (show ac + (if accB ⟨21, d, nn, m, imm, kind⟩ = true then (1 : Int) else 0) = ac by simp [accB, *])
              rw [cl] at LA
              rw [cs] at SA
              clear cl cs
              go_wp2_with fail
              refine (LA.out _).mono ?_
              rintro e w2 ⟨rfl, b⟩
              obtain ⟨y2, rfl⟩ := Wb.next b
              clear b
              go_wp2_with fail
              refine (SA.out _).mono ?_
              rintro e w3 ⟨rfl, b⟩
              obtain ⟨y3, rfl⟩ := Wb.next b
              clear b
              go_wp2_with fail
              go_roundw
              case rel => exact ⟨i + 1, y3, IL.out, by go_num, by rw [SX.out, EV.out], by rw [AX.out, AV.out], rfl⟩
              case measure => have := IL.out; simp [intOf] <;> omega
          · have q21 : (op == 21) = false := by simpa using e21
            have EV := Lib.hid (show s + eventsS ⟨op, d, nn, m, imm, kind⟩ cores = s by simp [eventsS, *])
            have AV := Lib.hid (show ac + (if accB ⟨op, d, nn, m, imm, kind⟩ = true then (1 : Int) else 0) = ac by simp [accB, *])
            rw [cl] at LA
            rw [cs] at SA
            clear cl cs
            go_wp2_with fail
            refine (LA.out _).mono ?_
            rintro e w2 ⟨rfl, b⟩
            obtain ⟨y2, rfl⟩ := Wb.next b
            clear b
            go_wp2_with fail
            refine (SA.out _).mono ?_
            rintro e w3 ⟨rfl, b⟩
            obtain ⟨y3, rfl⟩ := Wb.next b
            clear b
            go_wp2_with fail
            go_roundw
            case rel => exact ⟨i + 1, y3, IL.out, by go_num, by rw [SX.out, EV.out], by rw [AX.out, AV.out], rfl⟩
            case measure => have := IL.out; simp [intOf] <;> omega
    · have g1 : ¬ (i : Int) < (n : Int) := by omega
      have hin : i = L.length := by have := N.out; omega
      subst hin
      clear ci hi
      go_wp2
      refine bodyPost_ret (v := .tuple #[.int .i64 (sumP L cores L.length), .int .i64 (accP L L.length)]) (by simp [results, Tryz.results23, go_sem, *]) rfl ⟨rfl, KK.out z⟩
end Go.Proofs.YtlflknfkenfpiaaGreatDoor
