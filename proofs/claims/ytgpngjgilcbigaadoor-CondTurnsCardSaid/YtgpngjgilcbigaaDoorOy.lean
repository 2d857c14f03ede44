/-
  Layer 11, the liftings: an outcome that came in, opened.
-/
import Derived.Test.YtgpngjgilcbigaaDoorOx
import Derived.Test.YtgpngjgilcbigaaDoorOg
set_option linter.unusedSimpArgs false
set_option linter.unusedVariables false
namespace Go.Proofs.YtgpngjgilcbigaaDoor
open Go.ChangeShapes Go.WideShapes Go.ChangeAt Go.RowKit GrC
theorem choose_list {α : Type} (n : Nat) (P : Nat → α → Prop) (h : ∀ i, i < n → ∃ x, P i x) : ∃ L : List α, L.length = n ∧ ∀ i (hi : i < L.length), P i (L[i]'hi) := by
  induction n with
  | zero => exact ⟨[], rfl, fun i hi => by simp at hi⟩
  | succ n ih =>
    obtain ⟨L, hl, hL⟩ := ih fun i hi => h i (by omega)
    obtain ⟨x, hx⟩ := h n (by omega)
    refine ⟨L ++ [x], by simp [hl], fun i hi => ?_⟩
    by_cases c : i < L.length
    · rw [List.getElem_append_left c]
      exact hL i c
    · have : i = n := by simp at hi; omega
      subst this
      rw [List.getElem_append_right (by omega)]
      simpa [hl] using hx
section
variable {H : Type} {enc : TypeId × Value → H} {W : World} {base b0 : Nat} {spare : Nat → Bool} {held : Bool} {r : Reach}
/-- a slice laid in a cell: its elements' cells -/
theorem sl_elems {t e : TypeId} (K : Nat) {fuel : Nat} {c : Value} {x : DataW H × List MemPlace} (ht : Tryd.prog.underlying t = some (.slice e)) (hc : Tryd.prog.cellsOf e = K) (h : DataW.trod enc Tryd.prog W base spare held fuel t [c] = some x) :
    ∃ (p : Option Addr) (len cap : Nat), c = .slice p len cap ∧ len ≤ maxLen ∧ ∀ i, i < len → ∃ (a : Addr) (cs : List Value), p = some a ∧ cs.length = K ∧ (∀ q u, cs[q]? = some u → W.cell? (a.add (i * K + q)) = some u) ∧ ∃ m y, DataW.trod enc Tryd.prog W base spare held m e cs = some y := by
  rcases DataW.trod_slice ht h with ⟨e5, _⟩ | ⟨a, len, cap, elems, rest, m, _, e5, _, _, hlc, hm, hle, hel, _, _⟩
  · simp only [List.cons.injEq, and_true] at e5
    exact ⟨none, 0, 0, e5, Nat.zero_le _, fun i hi => absurd hi (by omega)⟩
  · simp only [List.cons.injEq, and_true] at e5
    refine ⟨some a, len, cap, e5, Nat.le_trans hlc hm, fun i hi => ?_⟩
    have h1 := hel i hi
    rw [List.getElem?_eq_getElem (by omega), hc] at h1
    obtain ⟨cs, h2, h3⟩ := Option.bind_eq_some_iff.1 h1
    refine ⟨a, cs, rfl, (World.cells?_some h2).2.1, fun q u hu => ?_, m, _, h3⟩
    have hq : q < K := Nat.lt_of_lt_of_eq (List.getElem?_eq_some_iff.1 hu).1 (World.cells?_some h2).2.1
    have h4 := (World.cells?_some h2).2.2 q hq
    rw [add_add, hu] at h4
    exact h4
theorem one_cell {cs : List Value} (h : cs.length = 1) : ∃ v, cs = [v] := by
  match cs, h with
  | [v], _ => exact ⟨v, rfl⟩
theorem two_cells {cs : List Value} (h : cs.length = 2) : ∃ u v, cs = [u, v] := by
  match cs, h with
  | [u, v], _ => exact ⟨u, v, rfl⟩
set_option maxRecDepth 100000 in
theorem trod_out (fuel : Nat) (cs : List Value) (x : DataW H × List MemPlace) (h : DataW.trod enc Tryd.prog W base spare held fuel 50 cs = some x) : ∃ (o : Out) (pr : Option Addr) (nr cr : Nat) (pf : Option Addr) (nf cf : Nat) (pc : Option Addr) (nc cc : Nat), cs = [.slice pr nr cr, .slice pf nf cf, .slice pc nc cc] ∧ OAt W o pr nr cr pf nf cf pc nc cc := by
  obtain ⟨xs, n, hfu, _, hcl, hlen, hg⟩ := DataW.trod_struct Tryd.underlying50 h
  have hl : cs.length = 3 := hcl.trans (by kernel_rfl)
  obtain ⟨c0, c1, c2, rfl⟩ : ∃ a b c, cs = [a, b, c] := by
    match cs, hl with
    | [a, b, c], _ => exact ⟨a, b, c, rfl⟩
  obtain ⟨x0, x1, x2, rfl⟩ : ∃ a b c, xs = [a, b, c] := by
    match xs, hlen with
    | [a, b, c], _ => exact ⟨a, b, c, rfl⟩
  have g0 : DataW.trod enc Tryd.prog W base spare held n 46 (([c0, c1, c2].drop 0).take (Tryd.prog.cellsOf 46)) = some x0 := hg 0 _ rfl
  have g1 : DataW.trod enc Tryd.prog W base spare held n 47 (([c0, c1, c2].drop 1).take (Tryd.prog.cellsOf 47)) = some x1 := hg 1 _ rfl
  have g2 : DataW.trod enc Tryd.prog W base spare held n 48 (([c0, c1, c2].drop 2).take (Tryd.prog.cellsOf 48)) = some x2 := hg 2 _ rfl
  rw [show Tryd.prog.cellsOf 46 = 1 by kernel_rfl] at g0
  rw [show Tryd.prog.cellsOf 47 = 1 by kernel_rfl] at g1
  rw [show Tryd.prog.cellsOf 48 = 1 by kernel_rfl] at g2
  simp only [List.drop_zero, List.drop_succ_cons, List.take_succ_cons, List.take_zero] at g0 g1 g2
  obtain ⟨pr, nr, cr, rfl, mr, hr⟩ := sl_elems 1 Tryd.underlying46 (by kernel_rfl) g0
  obtain ⟨pf, nf, cf, rfl, mf, hf⟩ := sl_elems 1 Tryd.underlying47 (by kernel_rfl) g1
  obtain ⟨pc, nc, cc, rfl, mc, hc⟩ := sl_elems 2 Tryd.underlying48 (by kernel_rfl) g2
  obtain ⟨RL, rl, RH⟩ := choose_list nr (fun i (zs : List Int) => ∃ a p n c, pr = some a ∧ W.cell? (a.add i) = some (.slice p n c) ∧ n = zs.length ∧ n ≤ maxLen ∧ ∀ j (h2 : j < zs.length), ∃ b, p = some b ∧ W.cell? (b.add j) = some (.int .u64 (zs[j]'h2))) fun i hi => by
    obtain ⟨a, cs, e1, e2, e3, m, y, e4⟩ := hr i hi
    obtain ⟨v, rfl⟩ := one_cell e2
    obtain ⟨p, n2, c, rfl, m2, h2⟩ := sl_elems 1 Tryd.underlying78 (by kernel_rfl) e4
    obtain ⟨zs, zl, zh⟩ := choose_list n2 (fun j (z : Int) => ∃ b, p = some b ∧ W.cell? (b.add j) = some (.int .u64 z)) fun j hj => by
      obtain ⟨b, cs, f1, f2, f3, m3, y3, f4⟩ := h2 j hj
      obtain ⟨u, rfl⟩ := one_cell f2
      obtain ⟨z, e, _⟩ := DataW.trod_int Tryd.underlying22 f4
      simp only [List.cons.injEq, and_true] at e
      subst e
      exact ⟨z, b, f1, by simpa using f3 0 _ rfl⟩
    exact ⟨zs, a, p, n2, c, e1, by simpa using e3 0 _ rfl, zl.symm, m2, zh⟩
  obtain ⟨FL, fl, FH⟩ := choose_list nf (fun i (k : Nat) => ∃ a p c, pf = some a ∧ W.cell? (a.add i) = some (.slice p k c) ∧ k ≤ maxLen) fun i hi => by
    obtain ⟨a, cs, e1, e2, e3, m, y, e4⟩ := hf i hi
    obtain ⟨v, rfl⟩ := one_cell e2
    obtain ⟨p, n2, c, rfl, m2, _⟩ := sl_elems _ Tryd.underlying77 rfl e4
    exact ⟨n2, a, p, c, e1, by simpa using e3 0 _ rfl, m2⟩
  obtain ⟨CL, cl, CH⟩ := choose_list nc (fun i (z : Int × Int) => ∃ a, pc = some a ∧ W.cell? (a.add (i * 2)) = some (.int .u64 z.1) ∧ W.cell? ⟨(a.add (i * 2)).block, (a.add (i * 2)).off + 1, none⟩ = some (.int .u64 z.2)) fun i hi => by
    obtain ⟨a, cs, e1, e2, e3, m, y, e4⟩ := hc i hi
    obtain ⟨u, v, rfl⟩ := two_cells e2
    obtain ⟨ys, n5, _, _, _, hlen5, hg5⟩ := DataW.trod_struct Tryd.underlying80 e4
    obtain ⟨y0, y1, rfl⟩ : ∃ a b, ys = [a, b] := by
      match ys, hlen5 with
      | [a, b], _ => exact ⟨a, b, rfl⟩
    have k0 : DataW.trod enc Tryd.prog W base spare held n5 22 (([u, v].drop 0).take (Tryd.prog.cellsOf 22)) = some y0 := hg5 0 _ rfl
    have k1 : DataW.trod enc Tryd.prog W base spare held n5 22 (([u, v].drop 1).take (Tryd.prog.cellsOf 22)) = some y1 := hg5 1 _ rfl
    rw [show Tryd.prog.cellsOf 22 = 1 by kernel_rfl] at k0 k1
    simp only [List.drop_zero, List.drop_succ_cons, List.take_succ_cons, List.take_zero] at k0 k1
    obtain ⟨z0, q0, _⟩ := DataW.trod_int Tryd.underlying22 k0
    obtain ⟨z1, q1, _⟩ := DataW.trod_int Tryd.underlying22 k1
    simp only [List.cons.injEq, and_true] at q0 q1
    subst q0 q1
    refine ⟨(z0, z1), a, e1, by simpa using e3 0 _ rfl, ?_⟩
    have h5 := e3 1 _ rfl
    rw [← add_add] at h5
    obtain ⟨y, hy⟩ : ∃ y, y = a.add (i * 2) := ⟨_, rfl⟩
    rw [← hy] at h5 ⊢
    have h6 : y.add 1 = ⟨y.block, y.off + 1, none⟩ := by unfold Addr.add; rw [if_neg (by omega)]
    rw [h6] at h5
    exact h5
  refine ⟨⟨RL, FL, CL⟩, pr, nr, cr, pf, nf, cf, pc, nc, cc, rfl, rl.symm, fl.symm, cl.symm, RH, FH, CH, mc, mr, mf⟩
-- an argument that is an outcome
set_option maxRecDepth 100000 in
theorem open_out {v : Value} {d : DataW H} {q : List MemPlace} (hv : Value.okWide Tryd.prog W r b0 50 v) (h : DataW.Trod enc Tryd.prog W base spare held 50 v d q) :
    ∃ (o : Out) (pr : Option Addr) (nr cr : Nat) (pf : Option Addr) (nf cf : Nat) (pc : Option Addr) (nc cc : Nat), v = .agg #[.slice pr nr cr, .slice pf nf cf, .slice pc nc cc] ∧ OAt W o pr nr cr pf nf cf pc nc cc := by
  obtain ⟨cs, rfl, hsz⟩ := okWide_struct Tryd.underlying50 hv
  obtain ⟨l⟩ := cs
  obtain ⟨fuel, hf⟩ := h
  obtain ⟨o, pr, nr, cr, pf, nf, cf, pc, nc, cc, e, ho⟩ := trod_out fuel _ _ hf
  have e2 : l = [.slice pr nr cr, .slice pf nf cf, .slice pc nc cc] := e
  subst e2
  exact ⟨o, pr, nr, cr, pf, nf, cf, pc, nc, cc, rfl, ho⟩
-- an argument that is a row of outcomes
set_option maxRecDepth 100000 in
theorem open_outs {v : Value} {d : DataW H} {q : List MemPlace} (hv : Value.okWide Tryd.prog W r b0 52 v) (h : DataW.Trod enc Tryd.prog W base spare held 52 v d q) :
    ∃ (os : List Out) (p : Option Addr) (n k : Nat), v = .slice p n k ∧ n = os.length ∧ n ≤ maxLen ∧ ∀ i (h : i < os.length), ∃ a pr nr cr pf nf cf pc nc cc, p = some a ∧ W.cell? (a.add (i * 3)) = some (.slice pr nr cr) ∧ W.cell? ⟨(a.add (i * 3)).block, (a.add (i * 3)).off + 1, none⟩ = some (.slice pf nf cf) ∧ W.cell? ⟨(a.add (i * 3)).block, (a.add (i * 3)).off + 2, none⟩ = some (.slice pc nc cc) ∧ OAt W (os[i]'h) pr nr cr pf nf cf pc nc cc := by
  obtain ⟨a, len, cap, rfl⟩ := okWide_slice Tryd.underlying52 hv
  obtain ⟨fuel, hf⟩ := h
  obtain ⟨p, n, k, e, hm, hx⟩ := sl_elems 3 Tryd.underlying52 (by kernel_rfl) (show DataW.trod enc Tryd.prog W base spare held fuel 52 [.slice a len cap] = some _ from hf)
  obtain ⟨os, ol, oh⟩ := choose_list n (fun i (o : Out) => ∃ a pr nr cr pf nf cf pc nc cc, p = some a ∧ W.cell? (a.add (i * 3)) = some (.slice pr nr cr) ∧ W.cell? ⟨(a.add (i * 3)).block, (a.add (i * 3)).off + 1, none⟩ = some (.slice pf nf cf) ∧ W.cell? ⟨(a.add (i * 3)).block, (a.add (i * 3)).off + 2, none⟩ = some (.slice pc nc cc) ∧ OAt W o pr nr cr pf nf cf pc nc cc) fun i hi => by
    obtain ⟨a, cs, e1, e2, e3, m, y, e4⟩ := hx i hi
    obtain ⟨o, pr, nr, cr, pf, nf, cf, pc, nc, cc, rfl, ho⟩ := trod_out m _ _ e4
    have hr : ∀ q, 0 < q → (⟨(a.add (i * 3)).block, (a.add (i * 3)).off + q, none⟩ : Addr) = a.add (i * 3 + q) := fun q h => by
      rw [← add_add]
      obtain ⟨y, hy⟩ : ∃ y, y = a.add (i * 3) := ⟨_, rfl⟩
      rw [← hy]
      unfold Addr.add
      rw [if_neg (by omega)]
    exact ⟨o, a, pr, nr, cr, pf, nf, cf, pc, nc, cc, e1, by simpa using e3 0 _ rfl, by rw [hr 1 (by omega)]; exact e3 1 _ rfl, by rw [hr 2 (by omega)]; exact e3 2 _ rfl, ho⟩
  exact ⟨os, p, n, k, e, ol.symm, hm, oh⟩
end
end Go.Proofs.YtgpngjgilcbigaaDoor
