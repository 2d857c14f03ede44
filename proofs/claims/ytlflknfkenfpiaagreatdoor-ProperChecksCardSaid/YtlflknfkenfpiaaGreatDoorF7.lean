/-
  Texts of one claim, merged.
-/
import Derived.Test.YtlflknfkenfpiaaGreatDoorE3
import Derived.Test.YtlflknfkenfpiaaGreatDoorB7
import Derived.Test.YtlflknfkenfpiaaGreatDoorB8
import Derived.Test.YtlflknfkenfpiaaGreatDoorE9
import Derived.ChangeSlices
import Derived.Deep.Slices
set_option linter.unusedSimpArgs false
set_option linter.unusedVariables false
namespace GrN
def okK (k : K) : Bool := decide (k.code.length ≤ 40) && decide (k.hand.length ≤ 40) && decide (k.regs ≤ 40)
def okA (t : GrC.Cnd) : Bool := decide (t.args.length = 0)
def fewB (nc : Nat) (Ks : List K) (ts : List GrC.Cnd) : Bool := decide (nc ≤ 300) && decide (Ks.length ≤ 6) && decide (ts.length ≤ 2) && Ks.all okK && ts.all okA
theorem all_no {α : Type} {L : List α} {f : α → Bool} (i : Nat) (h : i < L.length) (h2 : f L[i] = false) : L.all f = false := by
  rw [List.all_eq_false]
  exact ⟨L[i], List.getElem_mem h, by simp [h2]⟩
theorem all_yes {α : Type} {L : List α} {f : α → Bool} (h : ∀ j, (h : j < L.length) → f L[j] = true) : L.all f = true := by
  rw [List.all_eq_true]
  intro x hx
  obtain ⟨j, hj, rfl⟩ := List.mem_iff_getElem.1 hx
  exact h j hj
end GrN
namespace Go.Proofs.YtlflknfkenfpiaaGreatDoor
open Go.RowKit GrN
set_option maxRecDepth 100000 in
set_option maxHeartbeats 12800000 in
theorem few_any (Ks : List GrN.K) (ts : List GrC.Cnd) (nm : ByteArray) (pc : Option Addr) (nc cc : Nat) (pk : Option Addr) (nk ck : Nat) (fa : Bool) (ck0 cco cr cad cva : Int) (pg : Option Addr) (ng cg : Nat) (w : World) (hnk : nk = Ks.length) (hK : KsAt w pk Ks) (hng : ng = ts.length) (hl : LAt w ts pg 0) :
    Calls Tryz.prog 5 #[.agg #[.string nm, .slice pc nc cc, .slice pk nk ck, .bool fa, .int .i64 ck0, .int .i64 cco, .int .i64 cr, .int .u64 cad, .int .u64 cva, .slice pg ng cg]] w fun e w' => e = .returned (.bool (fewB nc Ks ts)) ∧ Below w.heap.size w w' := by
  have NK := Lib.hid hnk
  have NG := Lib.hid hng
  have XK := Lib.hid (fun (U : World) (b : Below w.heap.size w U) => hK.below b)
  have XL := Lib.hid (fun (U : World) (b : Below w.heap.size w U) => hl.below b)
  have FB := Lib.hid (show fewB nc Ks ts = (decide (nc ≤ 300) && decide (nk ≤ 6) && decide (ng ≤ 2) && Ks.all okK && ts.all okA) by rw [hnk, hng]; rfl)
  have n0 : (0 : Int) ≤ (nc : Int) := by omega
  have n1 : (0 : Int) ≤ (nk : Int) := by omega
  have n2 : (0 : Int) ≤ (ng : Int) := by omega
  clear hnk hng hK hl
  go_enter Tryz.func5, Tryz.ntmps5
  go_upto_region 1 with fail
  refine to_cls ?_
  intro U0 hU0 y0
  have RT := Lib.hid (show ∀ z : Wb U0, Row z.at w.heap.size [.string nm, .slice pc nc cc, .slice pk nk ck, .bool fa, .int .i64 ck0, .int .i64 cco, .int .i64 cr, .int .u64 cad, .int .u64 cva, .slice pg ng cg] 29 from Row.next (Row.new _ [.string nm, .slice pc nc cc, .slice pk nk ck, .bool fa, .int .i64 ck0, .int .i64 cco, .int .i64 cr, .int .u64 cad, .int .u64 cva, .slice pg ng cg] _) hU0)
  have KK := Lib.hid (KB.next (KB.alloc (Below.refl w.heap.size w) _) hU0)
  clear hU0
  obtain ⟨pT, hpT⟩ : ∃ b, b = w.heap.size := ⟨_, rfl⟩
  rw [← hpT] at RT
  simp only [← hpT]
  clear hpT
  have s1 := fun z : Wb U0 => (RT.out z).cell 1
  have s2 := fun z : Wb U0 => (RT.out z).cell 2
  have s9 := fun z : Wb U0 => (RT.out z).cell 9
  simp only [List.getElem?_cons_zero, List.getElem?_cons_succ] at s1 s2 s9
  by_cases g1 : 300 < nc
  · have h1 : (300 : Int) < (nc : Int) := by omega
    have E := Lib.hid (show fewB nc Ks ts = false by rw [FB.out, decide_eq_false (by omega)]; simp)
    clear FB g1
    go_wp2
    go_ret
    exact ⟨by rw [E.out]; rfl, KK.out _⟩
  have h1 : ¬ (300 : Int) < (nc : Int) := by omega
  by_cases g2 : 6 < nk
  · have h2 : (6 : Int) < (nk : Int) := by omega
    have E := Lib.hid (show fewB nc Ks ts = false by rw [FB.out, decide_eq_false (show ¬ nk ≤ 6 by omega)]; simp)
    clear FB g1 g2
    go_wp2
    go_ret
    exact ⟨by rw [E.out]; rfl, KK.out _⟩
  have h2 : ¬ (6 : Int) < (nk : Int) := by omega
  by_cases g3 : 2 < ng
  · have h3 : (2 : Int) < (ng : Int) := by omega
    have E := Lib.hid (show fewB nc Ks ts = false by rw [FB.out, decide_eq_false (show ¬ ng ≤ 2 by omega)]; simp)
    clear FB g1 g2 g3
    go_wp2
    go_ret
    exact ⟨by rw [E.out]; rfl, KK.out _⟩
  have h3 : ¬ (2 : Int) < (ng : Int) := by omega
  have k6 : (nk : Int) ≤ 6 := by omega
  have a2 : (ng : Int) ≤ 2 := by omega
  have FB := Lib.hid (show fewB nc Ks ts = (Ks.all okK && ts.all okA) by rw [FB.out, decide_eq_true (show nc ≤ 300 by omega), decide_eq_true (show nk ≤ 6 by omega), decide_eq_true (show ng ≤ 2 by omega)]; simp)
  clear g1 g2 g3
  go_wp2_with fail
  clear h1 h2 h3
  go_loopw [3] (fun iv wr => ∃ (i : Nat) (z : Wb U0), i ≤ nk ∧ iv = .int .i64 (i : Int) ∧ (∀ j, (h : j < Ks.length) → j < i → okK (Ks[j]'h) = true) ∧ wr = z.at) (fun iv _ => nk - (intOf iv).toNat)
  case atStart => exact ⟨0, y0, by omega, rfl, fun j _ h => by omega, rfl⟩
  case round =>
    obtain ⟨i, z, hi, rfl, hall, rfl⟩ := hrel
    have HA := Lib.hid hall
    clear hall
    have i0 : (0 : Int) ≤ (i : Int) := by omega
    by_cases ci : i < nk
    · have l1 : i < Ks.length := by have := NK.out; omega
      obtain ⟨a, pr, cr2, px, cx, ph, ch, epk, q0, q1, q2, q3, q4, x1, x2⟩ := XK.out z.at (KK.out z) i l1
      clear q1 q2 x1 x2
      have IL := Lib.hid (show i + 1 ≤ nk by omega)
      have IT := Lib.hid l1
      have g1 : (i : Int) < (nk : Int) := by omega
      obtain ⟨x, hx⟩ : ∃ x, x = Ks[i]'l1 := ⟨_, rfl⟩
      rw [← hx] at q0 q3 q4
      have HX := Lib.hid hx
      obtain ⟨rg, sp, tb, xc, xh⟩ := x
      simp only at q0 q3 q4
      have OK := Lib.hid (show okK (Ks[i]'l1) = (decide (xc.length ≤ 40) && decide (xh.length ≤ 40) && decide (rg ≤ 40)) by rw [← hx]; rfl)
      have NO := Lib.hid (show okK (Ks[i]'l1) = false → fewB nc Ks ts = false from fun h => by rw [FB.out, all_no i l1 h]; rfl)
      have W1 : IntKind.i64.wrap ((i : Int) + 1) = (i : Int) + 1 := IntWalk.i64_in _ ⟨by omega, by omega⟩
      subst epk
      obtain ⟨nx, hnx⟩ : ∃ k, k = xc.length := ⟨_, rfl⟩
      obtain ⟨nh, hnh⟩ : ∃ k, k = xh.length := ⟨_, rfl⟩
      rw [← hnx] at q3 OK
      rw [← hnh] at q4 OK
      clear hx hi ci hnx hnh
      by_cases e1 : 40 < nx
      · have h1 : (40 : Int) < (nx : Int) := by omega
        have E := Lib.hid (NO.out (by rw [OK.out, decide_eq_false (by omega)]; rfl))
        clear FB NO OK e1
        go_wp2
        go_ret
        exact ⟨by rw [E.out]; rfl, KK.out z⟩
      have h1 : ¬ (40 : Int) < (nx : Int) := by omega
      by_cases e2 : 40 < nh
      · have h2 : (40 : Int) < (nh : Int) := by omega
        have E := Lib.hid (NO.out (by rw [OK.out, decide_eq_false (show ¬ nh ≤ 40 by omega)]; simp))
        clear FB NO OK e1 e2
        go_wp2
        go_ret
        exact ⟨by rw [E.out]; rfl, KK.out z⟩
      have h2 : ¬ (40 : Int) < (nh : Int) := by omega
      by_cases e3 : 40 < rg
      · have h3 : (40 : Int) < (rg : Int) := by omega
        have E := Lib.hid (NO.out (by rw [OK.out, decide_eq_false (show ¬ rg ≤ 40 by omega)]; simp))
        clear FB NO OK e1 e2 e3
        go_wp2
        go_ret
        exact ⟨by rw [E.out]; rfl, KK.out z⟩
      have h3 : ¬ (40 : Int) < (rg : Int) := by omega
      have AL := Lib.hid (show ∀ j, (h : j < Ks.length) → j < i + 1 → okK (Ks[j]'h) = true from fun j h hj => by
        by_cases e : j = i
        · subst e
          rw [OK.out, decide_eq_true (show nx ≤ 40 by omega), decide_eq_true (show nh ≤ 40 by omega), decide_eq_true (show rg ≤ 40 by omega)]
          rfl
        · exact HA.out j h (by omega))
      clear NO OK e1 e2 e3
      go_wp2_with fail
      go_roundw
      case rel => exact ⟨i + 1, z, IL.out, by go_num, AL.out, rfl⟩
      case measure => have := IL.out; simp [intOf] <;> omega
    · have g1 : ¬ (i : Int) < (nk : Int) := by omega
      have hin : i = nk := by omega
      have FB := Lib.hid (show fewB nc Ks ts = ts.all okA by rw [FB.out, all_yes (fun j h => HA.out j h (by have := NK.out; omega))]; rfl)
      obtain rfl : nk = i := hin.symm
      clear ci hi HA hin
      go_wp2_with fail
      clear g1
      go_loopw [4] (fun iv wr => ∃ (i : Nat) (z : Wb U0), i ≤ ng ∧ iv = .int .i64 (i : Int) ∧ (∀ j, (h : j < ts.length) → j < i → okA (ts[j]'h) = true) ∧ wr = z.at) (fun iv _ => ng - (intOf iv).toNat)
      case atStart => exact ⟨0, z, by omega, rfl, fun j _ h => by omega, rfl⟩
      case round =>
        obtain ⟨i, z, hi, rfl, hall, rfl⟩ := hrel
        have HA := Lib.hid hall
        clear hall
        have i0 : (0 : Int) ≤ (i : Int) := by omega
        by_cases ci : i < ng
        · have l1 : i < ts.length := by have := NG.out; omega
          have LL := XL.out z.at (KK.out z)
          obtain ⟨a, rfl⟩ := LAt.addr LL i l1
          obtain ⟨p5, n5, c5, hn5, _, _, _, _, _, _, q5⟩ := LAt.cells LL i l1
          have IL := Lib.hid (show i + 1 ≤ ng by omega)
          have g1 : (i : Int) < (ng : Int) := by omega
          have OK := Lib.hid (show okA (ts[i]'l1) = decide (n5 = 0) by rw [hn5]; rfl)
          have NO := Lib.hid (show okA (ts[i]'l1) = false → fewB nc Ks ts = false from fun h => by rw [FB.out, all_no i l1 h])
          have W1 : IntKind.i64.wrap ((i : Int) + 1) = (i : Int) + 1 := IntWalk.i64_in _ ⟨by omega, by omega⟩
          clear hn5 hi ci LL
          by_cases e1 : 0 < n5
          · have h1 : (0 : Int) < (n5 : Int) := by omega
            have E := Lib.hid (NO.out (by rw [OK.out, decide_eq_false (by omega)]))
            clear FB NO OK e1
            go_wp2
            go_ret
            exact ⟨by rw [E.out]; rfl, KK.out z⟩
          have h1 : ¬ (0 : Int) < (n5 : Int) := by omega
          have AL := Lib.hid (show ∀ j, (h : j < ts.length) → j < i + 1 → okA (ts[j]'h) = true from fun j h hj => by
            by_cases e : j = i
            · subst e
              rw [OK.out, decide_eq_true (by omega)]
            · exact HA.out j h (by omega))
          clear NO OK e1
          go_wp2_with fail
          go_roundw
          case rel => exact ⟨i + 1, z, IL.out, by go_num, AL.out, rfl⟩
          case measure => have := IL.out; simp [intOf] <;> omega
        · have g1 : ¬ (i : Int) < (ng : Int) := by omega
          have hin : i = ng := by omega
          have E := Lib.hid (show fewB nc Ks ts = true by rw [FB.out, all_yes (fun j h => HA.out j h (by have := NG.out; omega))])
          obtain rfl : ng = i := hin.symm
          clear ci hi HA hin
          go_wp2
          go_ret
          exact ⟨by rw [E.out]; rfl, KK.out z⟩
end Go.Proofs.YtlflknfkenfpiaaGreatDoor
namespace Go.Proofs.YtlflknfkenfpiaaGreatDoor
open Go.ChangeShapes Go.WideShapes Go.ChangeAt Go.RowKit GrC GrN
section
variable {H : Type} {enc : TypeId × Value → H} {W : World} {base b0 : Nat} {spare : Nat → Bool} {held : Bool} {r : Reach}
theorem open_sl {α : Type} {t e : TypeId} (k : Nat) (ht : Tryz.prog.underlying t = some (.slice e)) (hc : Tryz.prog.cellsOf e = k) (Q : α → List Value → Prop) (z : α)
    (el : ∀ fuel cs x, DataW.trod enc Tryz.prog W base spare held fuel e cs = some x → ∃ a, Q a cs) {fuel : Nat} {cs : List Value} {x : DataW H × List MemPlace} (h : DataW.trod enc Tryz.prog W base spare held fuel t cs = some x) :
    ∃ (p : Option Addr) (L : List α) (cap : Nat), cs = [.slice p L.length cap] ∧ L.length ≤ cap ∧ cap ≤ maxLen ∧ ∀ j (hj : j < L.length), ∃ a cs', p = some a ∧ cs'.length = k ∧ (∀ q u, q < k → cs'[q]? = some u → W.cell? (a.add (j * k + q)) = some u) ∧ Q (L[j]'hj) cs' := by
  rcases DataW.trod_slice ht h with ⟨e5, _⟩ | ⟨a, len, cap, elems, rest, m, hm, e5, _, _, hlc, hcm, hle, hel, _, _⟩
  · exact ⟨none, [], 0, e5, Nat.le_refl _, Nat.zero_le _, fun j hj => by simp at hj⟩
  · rw [hc] at hel
    have key : ∀ i, i < len → ∃ c : α, ∃ cs', W.cells? base (a.add (i * k)) k = some cs' ∧ Q c cs' := fun i hi => by
      have h1 := hel i hi
      rw [List.getElem?_eq_getElem (by omega)] at h1
      obtain ⟨cs', h2, h3⟩ := Option.bind_eq_some_iff.1 h1
      obtain ⟨c, hc⟩ := el m cs' _ h3
      exact ⟨c, cs', h2, hc⟩
    have : Nonempty α := ⟨z⟩
    obtain ⟨f, hf⟩ : ∃ f : Nat → α, ∀ i, i < len → ∃ cs', W.cells? base (a.add (i * k)) k = some cs' ∧ Q (f i) cs' := by
      refine ⟨fun i => if h : i < len then Classical.choose (key i h) else z, fun i hi => ?_⟩
      simp only [dif_pos hi]
      exact Classical.choose_spec (key i hi)
    refine ⟨some a, (List.range len).map f, cap, by simpa using e5, by simpa using hlc, hcm, fun j hj => ?_⟩
    have hj' : j < len := by simpa using hj
    obtain ⟨cs', h1, h2⟩ := hf j hj'
    refine ⟨a, cs', rfl, (World.cells?_some h1).2.1, fun q u hq hu => ?_, by simpa using h2⟩
    have h3 := (World.cells?_some h1).2.2 q hq
    rw [add_add, hu] at h3
    exact h3
theorem off_add (a : Addr) (i q : Nat) (h : 0 < q) : (⟨(a.add i).block, (a.add i).off + q, none⟩ : Addr) = a.add (i + q) := by
  rw [← add_add]
  unfold Addr.add
  rw [if_neg (show ¬ q = 0 by omega)]
theorem open_nums {t e : TypeId} {kd : IntKind} (ht : Tryz.prog.underlying t = some (.slice e)) (he : Tryz.prog.underlying e = some (.int kd)) (hc : Tryz.prog.cellsOf e = 1) {fuel : Nat} {cs : List Value} {x : DataW H × List MemPlace} (h : DataW.trod enc Tryz.prog W base spare held fuel t cs = some x) :
    ∃ (p : Option Addr) (L : List Int) (cap : Nat), cs = [.slice p L.length cap] ∧ L.length ≤ cap ∧ cap ≤ maxLen ∧ NAt kd W p L ∧ ∀ v ∈ L, (Lit.int kd v).wf = true := by
  obtain ⟨p, L, cap, h1, h2, h3, h4⟩ := open_sl (α := Int) 1 ht hc (fun v cs => cs = [.int kd v] ∧ (Lit.int kd v).wf = true) 0 (fun fuel cs x h => by
    obtain ⟨v, e1, _, w⟩ := DataW.trod_int he h
    exact ⟨v, e1, w⟩) h
  refine ⟨p, L, cap, h1, h2, h3, fun j hj => ?_, fun v hv => ?_⟩
  · obtain ⟨a, cs', e1, _, e3, e4, _⟩ := h4 j hj
    subst e4
    refine ⟨a, e1, ?_⟩
    have := e3 0 _ (by decide) rfl
    rwa [Nat.mul_one, Nat.add_zero] at this
  · obtain ⟨j, hj, rfl⟩ := List.mem_iff_getElem.1 hv
    obtain ⟨a, cs', _, _, _, _, w⟩ := h4 j hj
    exact w
def insQ (x : GrI.I) (cs : List Value) : Prop := cs = [.int .i64 x.op, .int .i64 x.d, .int .i64 x.n, .int .i64 x.m, .int .i64 x.imm, .int .i64 x.kind] ∧ -9223372036854775808 ≤ x.imm ∧ x.imm ≤ 9223372036854775807
set_option maxRecDepth 100000 in
theorem trod_ins (fuel : Nat) (cs : List Value) (x : DataW H × List MemPlace) (h : DataW.trod enc Tryz.prog W base spare held fuel 84 cs = some x) : ∃ i, insQ i cs := by
  obtain ⟨xs, n, hfu, _, hcl, hlen, hg⟩ := DataW.trod_struct Tryz.underlying84 h
  have hl : cs.length = 6 := hcl.trans (by kernel_rfl)
  obtain ⟨c0, c1, c2, c3, c4, c5, rfl⟩ := list6 cs hl
  obtain ⟨x0, x1, x2, x3, x4, x5, rfl⟩ := list6 xs hlen
  have g0 : DataW.trod enc Tryz.prog W base spare held n 3 (([c0, c1, c2, c3, c4, c5].drop 0).take (Tryz.prog.cellsOf 3)) = some x0 := hg 0 _ rfl
  have g1 : DataW.trod enc Tryz.prog W base spare held n 3 (([c0, c1, c2, c3, c4, c5].drop 1).take (Tryz.prog.cellsOf 3)) = some x1 := hg 1 _ rfl
  have g2 : DataW.trod enc Tryz.prog W base spare held n 3 (([c0, c1, c2, c3, c4, c5].drop 2).take (Tryz.prog.cellsOf 3)) = some x2 := hg 2 _ rfl
  have g3 : DataW.trod enc Tryz.prog W base spare held n 3 (([c0, c1, c2, c3, c4, c5].drop 3).take (Tryz.prog.cellsOf 3)) = some x3 := hg 3 _ rfl
  have g4 : DataW.trod enc Tryz.prog W base spare held n 3 (([c0, c1, c2, c3, c4, c5].drop 4).take (Tryz.prog.cellsOf 3)) = some x4 := hg 4 _ rfl
  have g5 : DataW.trod enc Tryz.prog W base spare held n 3 (([c0, c1, c2, c3, c4, c5].drop 5).take (Tryz.prog.cellsOf 3)) = some x5 := hg 5 _ rfl
  rw [show Tryz.prog.cellsOf 3 = 1 by kernel_rfl] at g0 g1 g2 g3 g4 g5
  simp only [List.drop_zero, List.drop_succ_cons, List.take_succ_cons, List.take_zero] at g0 g1 g2 g3 g4 g5
  obtain ⟨v0, e0, _, w0⟩ := DataW.trod_int Tryz.underlying3 g0
  obtain ⟨v1, e1, _, w1⟩ := DataW.trod_int Tryz.underlying3 g1
  obtain ⟨v2, e2, _, w2⟩ := DataW.trod_int Tryz.underlying3 g2
  obtain ⟨v3, e3, _, w3⟩ := DataW.trod_int Tryz.underlying3 g3
  obtain ⟨v4, e4, _, w4⟩ := DataW.trod_int Tryz.underlying3 g4
  obtain ⟨v5, e5, _, w5⟩ := DataW.trod_int Tryz.underlying3 g5
  simp only [List.cons.injEq, and_true] at e0 e1 e2 e3 e4 e5
  subst e0 e1 e2 e3 e4 e5
  exact ⟨⟨v0, v1, v2, v3, v4, v5⟩, rfl, (bd_i64 w4).1, (bd_i64 w4).2⟩
theorem open_code {fuel : Nat} {cs : List Value} {x : DataW H × List MemPlace} (h : DataW.trod enc Tryz.prog W base spare held fuel 52 cs = some x) :
    ∃ (p : Option Addr) (L : List GrI.I) (cap : Nat), cs = [.slice p L.length cap] ∧ XsAt W p L ∧ ∀ x ∈ L, -9223372036854775808 ≤ x.imm ∧ x.imm ≤ 9223372036854775807 := by
  obtain ⟨p, L, cap, h1, h2, h3, h4⟩ := open_sl (α := GrI.I) 6 Tryz.underlying52 (by kernel_rfl) insQ ⟨0, 0, 0, 0, 0, 0⟩ trod_ins h
  refine ⟨p, L, cap, h1, fun j hj => ?_, fun v hv => ?_⟩
  · obtain ⟨a, cs', e1, _, e3, e4, _⟩ := h4 j hj
    subst e4
    refine ⟨a, e1, ?_, ?_, ?_, ?_, ?_, ?_⟩
    · exact e3 0 _ (by decide) rfl
    all_goals rw [off_add _ _ _ (by decide)]
    · exact e3 1 _ (by decide) rfl
    · exact e3 2 _ (by decide) rfl
    · exact e3 3 _ (by decide) rfl
    · exact e3 4 _ (by decide) rfl
    · exact e3 5 _ (by decide) rfl
  · obtain ⟨j, hj, rfl⟩ := List.mem_iff_getElem.1 hv
    obtain ⟨a, cs', _, _, _, _, w⟩ := h4 j hj
    exact w
def cellQ (x : Int × Int) (cs : List Value) : Prop := cs = [.int .u64 x.1, .int .u64 x.2] ∧ 0 ≤ x.1 ∧ x.1 < 18446744073709551616
theorem list2 {α : Type} (l : List α) (h : l.length = 2) : ∃ x0 x1, l = [x0, x1] := by
  match l, h with
  | [x0, x1], _ => exact ⟨x0, x1, rfl⟩
theorem list5 {α : Type} (l : List α) (h : l.length = 5) : ∃ x0 x1 x2 x3 x4, l = [x0, x1, x2, x3, x4] := by
  match l, h with
  | [x0, x1, x2, x3, x4], _ => exact ⟨x0, x1, x2, x3, x4, rfl⟩
set_option maxRecDepth 100000 in
theorem trod_cell (fuel : Nat) (cs : List Value) (x : DataW H × List MemPlace) (h : DataW.trod enc Tryz.prog W base spare held fuel 61 cs = some x) : ∃ i, cellQ i cs := by
  obtain ⟨xs, n, hfu, _, hcl, hlen, hg⟩ := DataW.trod_struct Tryz.underlying61 h
  have hl : cs.length = 2 := hcl.trans (by kernel_rfl)
  obtain ⟨c0, c1, rfl⟩ := list2 cs hl
  obtain ⟨x0, x1, rfl⟩ := list2 xs hlen
  have g0 : DataW.trod enc Tryz.prog W base spare held n 24 (([c0, c1].drop 0).take (Tryz.prog.cellsOf 24)) = some x0 := hg 0 _ rfl
  have g1 : DataW.trod enc Tryz.prog W base spare held n 24 (([c0, c1].drop 1).take (Tryz.prog.cellsOf 24)) = some x1 := hg 1 _ rfl
  rw [show Tryz.prog.cellsOf 24 = 1 by kernel_rfl] at g0 g1
  simp only [List.drop_zero, List.drop_succ_cons, List.take_succ_cons, List.take_zero] at g0 g1
  obtain ⟨v0, e0, _, w0⟩ := DataW.trod_int Tryz.underlying24 g0
  obtain ⟨v1, e1, _, w1⟩ := DataW.trod_int Tryz.underlying24 g1
  simp only [List.cons.injEq, and_true] at e0 e1
  subst e0 e1
  exact ⟨(v0, v1), rfl, (bd_u64 w0).1, (bd_u64 w0).2⟩
theorem open_cells {fuel : Nat} {cs : List Value} {x : DataW H × List MemPlace} (h : DataW.trod enc Tryz.prog W base spare held fuel 22 cs = some x) :
    ∃ (p : Option Addr) (L : List (Int × Int)) (cap : Nat), cs = [.slice p L.length cap] ∧ DsAt W p L ∧ ∀ x ∈ L, 0 ≤ x.1 ∧ x.1 < 18446744073709551616 := by
  obtain ⟨p, L, cap, h1, h2, h3, h4⟩ := open_sl (α := Int × Int) 2 Tryz.underlying22 (by kernel_rfl) cellQ (0, 0) trod_cell h
  refine ⟨p, L, cap, h1, fun j hj => ?_, fun v hv => ?_⟩
  · obtain ⟨a, cs', e1, _, e3, e4, _⟩ := h4 j hj
    subst e4
    refine ⟨a, e1, e3 0 _ (by decide) rfl, ?_⟩
    rw [off_add _ _ _ (by decide)]
    exact e3 1 _ (by decide) rfl
  · obtain ⟨j, hj, rfl⟩ := List.mem_iff_getElem.1 hv
    obtain ⟨a, cs', _, _, _, _, w⟩ := h4 j hj
    exact w
def coreQ (W : World) (x : GrN.K) (cs : List Value) : Prop := ∃ pr cr px cx ph ch, cs = [.slice pr x.regs cr, .int .i64 x.space, .int .u64 x.tab, .slice px x.code.length cx, .slice ph x.hand.length ch] ∧ XsAt W px x.code ∧ XsAt W ph x.hand ∧ (∀ y ∈ x.code, -9223372036854775808 ≤ y.imm ∧ y.imm ≤ 9223372036854775807) ∧ (∀ y ∈ x.hand, -9223372036854775808 ≤ y.imm ∧ y.imm ≤ 9223372036854775807) ∧ 0 ≤ x.tab ∧ x.tab < 18446744073709551616
set_option maxRecDepth 100000 in
theorem trod_core (fuel : Nat) (cs : List Value) (x : DataW H × List MemPlace) (h : DataW.trod enc Tryz.prog W base spare held fuel 54 cs = some x) : ∃ i, coreQ W i cs := by
  obtain ⟨xs, n, hfu, _, hcl, hlen, hg⟩ := DataW.trod_struct Tryz.underlying54 h
  have hl : cs.length = 5 := hcl.trans (by kernel_rfl)
  obtain ⟨c0, c1, c2, c3, c4, rfl⟩ := list5 cs hl
  obtain ⟨x0, x1, x2, x3, x4, rfl⟩ := list5 xs hlen
  have g0 : DataW.trod enc Tryz.prog W base spare held n 30 (([c0, c1, c2, c3, c4].drop 0).take (Tryz.prog.cellsOf 30)) = some x0 := hg 0 _ rfl
  have g1 : DataW.trod enc Tryz.prog W base spare held n 3 (([c0, c1, c2, c3, c4].drop 1).take (Tryz.prog.cellsOf 3)) = some x1 := hg 1 _ rfl
  have g2 : DataW.trod enc Tryz.prog W base spare held n 24 (([c0, c1, c2, c3, c4].drop 2).take (Tryz.prog.cellsOf 24)) = some x2 := hg 2 _ rfl
  have g3 : DataW.trod enc Tryz.prog W base spare held n 52 (([c0, c1, c2, c3, c4].drop 3).take (Tryz.prog.cellsOf 52)) = some x3 := hg 3 _ rfl
  have g4 : DataW.trod enc Tryz.prog W base spare held n 52 (([c0, c1, c2, c3, c4].drop 4).take (Tryz.prog.cellsOf 52)) = some x4 := hg 4 _ rfl
  rw [show Tryz.prog.cellsOf 30 = 1 by kernel_rfl] at g0
  rw [show Tryz.prog.cellsOf 3 = 1 by kernel_rfl] at g1
  rw [show Tryz.prog.cellsOf 24 = 1 by kernel_rfl] at g2
  rw [show Tryz.prog.cellsOf 52 = 1 by kernel_rfl] at g3 g4
  simp only [List.drop_zero, List.drop_succ_cons, List.take_succ_cons, List.take_zero] at g0 g1 g2 g3 g4
  obtain ⟨pr, L0, cr, e0, _, _, _, _⟩ := open_nums Tryz.underlying30 Tryz.underlying24 (by kernel_rfl) g0
  obtain ⟨v1, e1, _, w1⟩ := DataW.trod_int Tryz.underlying3 g1
  obtain ⟨v2, e2, _, w2⟩ := DataW.trod_int Tryz.underlying24 g2
  obtain ⟨px, L3, cx, e3, xx, bx⟩ := open_code g3
  obtain ⟨ph, L4, ch, e4, xh, bh⟩ := open_code g4
  simp only [List.cons.injEq, and_true] at e0 e1 e2 e3 e4
  subst e0 e1 e2 e3 e4
  exact ⟨⟨L0.length, v1, v2, L3, L4⟩, pr, cr, px, cx, ph, ch, rfl, xx, xh, bx, bh, (bd_u64 w2).1, (bd_u64 w2).2⟩
theorem open_cores {fuel : Nat} {cs : List Value} {x : DataW H × List MemPlace} (h : DataW.trod enc Tryz.prog W base spare held fuel 23 cs = some x) :
    ∃ (p : Option Addr) (L : List GrN.K) (cap : Nat), cs = [.slice p L.length cap] ∧ KsAt W p L ∧ ∀ c ∈ L, (∀ y ∈ c.code, -9223372036854775808 ≤ y.imm ∧ y.imm ≤ 9223372036854775807) ∧ (∀ y ∈ c.hand, -9223372036854775808 ≤ y.imm ∧ y.imm ≤ 9223372036854775807) ∧ 0 ≤ c.tab ∧ c.tab < 18446744073709551616 := by
  obtain ⟨p, L, cap, h1, h2, h3, h4⟩ := open_sl (α := GrN.K) 5 Tryz.underlying23 (by kernel_rfl) (coreQ W) ⟨0, 0, 0, [], []⟩ trod_core h
  refine ⟨p, L, cap, h1, fun j hj => ?_, fun v hv => ?_⟩
  · obtain ⟨a, cs', e1, _, e3, pr, cr, px, cx, ph, ch, e4, xx, xh, _⟩ := h4 j hj
    subst e4
    refine ⟨a, pr, cr, px, cx, ph, ch, e1, e3 0 _ (by decide) rfl, ?_, ?_, ?_, ?_, xx, xh⟩
    all_goals rw [off_add _ _ _ (by decide)]
    · exact e3 1 _ (by decide) rfl
    · exact e3 2 _ (by decide) rfl
    · exact e3 3 _ (by decide) rfl
    · exact e3 4 _ (by decide) rfl
  · obtain ⟨j, hj, rfl⟩ := List.mem_iff_getElem.1 hv
    obtain ⟨a, cs', _, _, _, pr, cr, px, cx, ph, ch, _, _, _, w⟩ := h4 j hj
    exact w
theorem open_numss {fuel : Nat} {cs : List Value} {x : DataW H × List MemPlace} (h : DataW.trod enc Tryz.prog W base spare held fuel 32 cs = some x) :
    ∃ (p : Option Addr) (L : List (List Int)) (cap : Nat), cs = [.slice p L.length cap] ∧ L.length ≤ cap ∧ cap ≤ maxLen ∧ PsAt W p L := by
  obtain ⟨p, L, cap, h1, h2, h3, h4⟩ := open_sl (α := List Int) 1 Tryz.underlying32 (by kernel_rfl) (fun L cs => ∃ q c, cs = [.slice q L.length c] ∧ L.length ≤ c ∧ c ≤ maxLen ∧ NAt .i64 W q L) [] (fun fuel cs x h => by
    obtain ⟨q, L, c, e1, e2, e3, e4, _⟩ := open_nums Tryz.underlying31 Tryz.underlying3 (by kernel_rfl) h
    exact ⟨L, q, c, e1, e2, e3, e4⟩) h
  refine ⟨p, L, cap, h1, h2, h3, fun j hj => ?_⟩
  obtain ⟨a, cs', e1, _, e3, q, c, e4, e5, e6, e7⟩ := h4 j hj
  subst e4
  refine ⟨a, q, c, e1, ?_, e5, e6, e7⟩
  have := e3 0 _ (by decide) rfl
  rwa [Nat.mul_one, Nat.add_zero] at this
set_option maxRecDepth 100000 in
theorem open_test {v : Value} {d : DataW H} {q : List MemPlace} (hv : Value.okWide Tryz.prog W r b0 29 v) (h : DataW.Trod enc Tryz.prog W base spare held 29 v d q) :
    ∃ (nm : ByteArray) (pc : Option Addr) (Cs : List (Int × Int)) (cc : Nat) (pk : Option Addr) (Ks : List GrN.K) (ck : Nat) (fa : Bool) (c : Cnd) (pg : Option Addr) (ng cg : Nat),
      v = .agg #[.string nm, .slice pc Cs.length cc, .slice pk Ks.length ck, .bool fa, .int .i64 c.k, .int .i64 c.co, .int .i64 c.r, .int .u64 c.ad, .int .u64 c.va, .slice pg ng cg] ∧ DsAt W pc Cs ∧ (∀ x ∈ Cs, 0 ≤ x.1 ∧ x.1 < 18446744073709551616) ∧ KsAt W pk Ks ∧
      (∀ c ∈ Ks, (∀ y ∈ c.code, -9223372036854775808 ≤ y.imm ∧ y.imm ≤ 9223372036854775807) ∧ (∀ y ∈ c.hand, -9223372036854775808 ≤ y.imm ∧ y.imm ≤ 9223372036854775807) ∧ 0 ≤ c.tab ∧ c.tab < 18446744073709551616) ∧ ng = c.args.length ∧ LAt W c.args pg 0 := by
  obtain ⟨cs, rfl, hsz⟩ := okWide_struct Tryz.underlying29 hv
  obtain ⟨l⟩ := cs
  obtain ⟨fuel, hf⟩ := h
  have hf : DataW.trod enc Tryz.prog W base spare held fuel 29 l = some (d, q) := hf
  obtain ⟨xs, n, hfu, _, hcl, hlen, hg⟩ := DataW.trod_struct Tryz.underlying29 hf
  have hl : l.length = 10 := hcl.trans (by kernel_rfl)
  obtain ⟨x0, x1, x2, x3, x4, rfl⟩ := list5 xs hlen
  match l, hl with
  | [c0, c1, c2, c3, c4, c5, c6, c7, c8, c9], _ =>
  have g0 : DataW.trod enc Tryz.prog W base spare held n 9 (([c0, c1, c2, c3, c4, c5, c6, c7, c8, c9].drop 0).take (Tryz.prog.cellsOf 9)) = some x0 := hg 0 _ rfl
  have g1 : DataW.trod enc Tryz.prog W base spare held n 22 (([c0, c1, c2, c3, c4, c5, c6, c7, c8, c9].drop 1).take (Tryz.prog.cellsOf 22)) = some x1 := hg 1 _ rfl
  have g2 : DataW.trod enc Tryz.prog W base spare held n 23 (([c0, c1, c2, c3, c4, c5, c6, c7, c8, c9].drop 2).take (Tryz.prog.cellsOf 23)) = some x2 := hg 2 _ rfl
  have g3 : DataW.trod enc Tryz.prog W base spare held n 4 (([c0, c1, c2, c3, c4, c5, c6, c7, c8, c9].drop 3).take (Tryz.prog.cellsOf 4)) = some x3 := hg 3 _ rfl
  have g4 : DataW.trod enc Tryz.prog W base spare held n 27 (([c0, c1, c2, c3, c4, c5, c6, c7, c8, c9].drop 4).take (Tryz.prog.cellsOf 27)) = some x4 := hg 4 _ rfl
  rw [show Tryz.prog.cellsOf 9 = 1 by kernel_rfl] at g0
  rw [show Tryz.prog.cellsOf 22 = 1 by kernel_rfl] at g1
  rw [show Tryz.prog.cellsOf 23 = 1 by kernel_rfl] at g2
  rw [show Tryz.prog.cellsOf 4 = 1 by kernel_rfl] at g3
  rw [show Tryz.prog.cellsOf 27 = 6 by kernel_rfl] at g4
  simp only [List.drop_zero, List.drop_succ_cons, List.take_succ_cons, List.take_zero] at g0 g1 g2 g3 g4
  obtain ⟨nm, e0, _, _⟩ := DataW.trod_string Tryz.underlying9 g0
  obtain ⟨pc, Cs, cc, e1, y1, y2⟩ := open_cells g1
  obtain ⟨pk, Ks, ck, e2, y3, y4⟩ := open_cores g2
  obtain ⟨fa, e3, _⟩ := DataW.trod_bool Tryz.underlying4 g3
  obtain ⟨c, hc⟩ := trod_cond _ _ _ g4
  obtain ⟨k, co, rr, ad, va, ts⟩ := c
  rw [CAt] at hc
  obtain ⟨pg, ng, cg, e4, hn, hla⟩ := hc
  simp only [List.cons.injEq, and_true] at e0 e1 e2 e3 e4
  obtain ⟨f4, f5, f6, f7, f8, f9⟩ := e4
  subst e0 e1 e2 e3 f4 f5 f6 f7 f8 f9
  exact ⟨nm, pc, Cs, cc, pk, Ks, ck, fa, .node k co rr ad va ts, pg, ng, cg, rfl, y1, y2, y3, y4, hn, hla⟩
set_option maxRecDepth 100000 in
theorem open_places {v : Value} {d : DataW H} {q : List MemPlace} (hv : Value.okWide Tryz.prog W r b0 34 v) (h : DataW.Trod enc Tryz.prog W base spare held 34 v d q) :
    ∃ (qt : Option Addr) (PT : List Int) (dt : Nat) (qc : Option Addr) (PC : List Int) (dc : Nat) (qk : Option Addr) (PK : List Int) (dk : Nat) (qi : Option Addr) (PI : List (List Int)) (di : Nat) (qa : Int),
      v = .agg #[.slice qt PT.length dt, .slice qc PC.length dc, .slice qk PK.length dk, .slice qi PI.length di, .int .i64 qa] ∧ NAt .i64 W qt PT ∧ PT.length ≤ maxLen ∧ NAt .i64 W qc PC ∧ PC.length ≤ maxLen ∧ NAt .i64 W qk PK ∧ PK.length ≤ maxLen ∧ PsAt W qi PI ∧ PI.length ≤ maxLen := by
  obtain ⟨cs, rfl, hsz⟩ := okWide_struct Tryz.underlying34 hv
  obtain ⟨l⟩ := cs
  obtain ⟨fuel, hf⟩ := h
  have hf : DataW.trod enc Tryz.prog W base spare held fuel 34 l = some (d, q) := hf
  obtain ⟨xs, n, hfu, _, hcl, hlen, hg⟩ := DataW.trod_struct Tryz.underlying34 hf
  have hl : l.length = 5 := hcl.trans (by kernel_rfl)
  obtain ⟨c0, c1, c2, c3, c4, rfl⟩ := list5 l hl
  obtain ⟨x0, x1, x2, x3, x4, rfl⟩ := list5 xs hlen
  have g0 : DataW.trod enc Tryz.prog W base spare held n 31 (([c0, c1, c2, c3, c4].drop 0).take (Tryz.prog.cellsOf 31)) = some x0 := hg 0 _ rfl
  have g1 : DataW.trod enc Tryz.prog W base spare held n 31 (([c0, c1, c2, c3, c4].drop 1).take (Tryz.prog.cellsOf 31)) = some x1 := hg 1 _ rfl
  have g2 : DataW.trod enc Tryz.prog W base spare held n 31 (([c0, c1, c2, c3, c4].drop 2).take (Tryz.prog.cellsOf 31)) = some x2 := hg 2 _ rfl
  have g3 : DataW.trod enc Tryz.prog W base spare held n 32 (([c0, c1, c2, c3, c4].drop 3).take (Tryz.prog.cellsOf 32)) = some x3 := hg 3 _ rfl
  have g4 : DataW.trod enc Tryz.prog W base spare held n 3 (([c0, c1, c2, c3, c4].drop 4).take (Tryz.prog.cellsOf 3)) = some x4 := hg 4 _ rfl
  rw [show Tryz.prog.cellsOf 31 = 1 by kernel_rfl] at g0 g1 g2
  rw [show Tryz.prog.cellsOf 32 = 1 by kernel_rfl] at g3
  rw [show Tryz.prog.cellsOf 3 = 1 by kernel_rfl] at g4
  simp only [List.drop_zero, List.drop_succ_cons, List.take_succ_cons, List.take_zero] at g0 g1 g2 g3 g4
  obtain ⟨qt, PT, dt, e0, z1, z2, z3, _⟩ := open_nums Tryz.underlying31 Tryz.underlying3 (by kernel_rfl) g0
  obtain ⟨qc, PC, dc, e1, z4, z5, z6, _⟩ := open_nums Tryz.underlying31 Tryz.underlying3 (by kernel_rfl) g1
  obtain ⟨qk, PK, dk, e2, z7, z8, z9, _⟩ := open_nums Tryz.underlying31 Tryz.underlying3 (by kernel_rfl) g2
  obtain ⟨qi, PI, di, e3, u1, u2, u3⟩ := open_numss g3
  obtain ⟨qa, e4, _⟩ := DataW.trod_int Tryz.underlying3 g4
  simp only [List.cons.injEq, and_true] at e0 e1 e2 e3 e4
  subst e0 e1 e2 e3 e4
  exact ⟨qt, PT, dt, qc, PC, dc, qk, PK, dk, qi, PI, di, qa, rfl, z3, Nat.le_trans z1 z2, z6, Nat.le_trans z4 z5, z9, Nat.le_trans z7 z8, u3, Nat.le_trans u1 u2⟩
set_option maxRecDepth 100000 in
theorem open_tables {v : Value} {d : DataW H} {q : List MemPlace} (hv : Value.okWide Tryz.prog W r b0 30 v) (h : DataW.Trod enc Tryz.prog W base spare held 30 v d q) :
    ∃ (pt : Option Addr) (TS : List Int) (ct : Nat), v = .slice pt TS.length ct ∧ NAt .u64 W pt TS ∧ TS.length ≤ maxLen ∧ ∀ x ∈ TS, 0 ≤ x ∧ x < 18446744073709551616 := by
  obtain ⟨a, len, cap, rfl⟩ := okWide_slice Tryz.underlying30 hv
  obtain ⟨fuel, hf⟩ := h
  obtain ⟨pt, TS, ct, e0, z1, z2, z3, z4⟩ := open_nums Tryz.underlying30 Tryz.underlying24 (by kernel_rfl) hf
  simp only [Value.cells, List.cons.injEq, and_true] at e0
  exact ⟨pt, TS, ct, e0, z3, Nat.le_trans z1 z2, fun x hx => bd_u64 (z4 x hx)⟩
end
end Go.Proofs.YtlflknfkenfpiaaGreatDoor
