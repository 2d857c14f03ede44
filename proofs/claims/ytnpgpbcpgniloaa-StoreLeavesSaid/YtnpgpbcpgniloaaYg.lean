/-
  Layer 6, the walks: has a map a list's things?
  Layer 6, the walks: played: a map, and the document's list.
  Layer 6, the laws' walks: StoreMaps.
-/
import Derived.Test.YtnpgpbcpgniloaaYd
import Derived.Test.YtnpgpbcpgniloaaZa
set_option linter.unusedSimpArgs false
set_option linter.unusedVariables false
namespace Go.Proofs.Ytnpgpbcpgniloaa
open Go.RowKit Go.Shelf GrS
attribute [local go_sem] Oper.semAt_some

theorem row_own {β : Type} (B : Nat) (L : List Value) (T : TypeId) : Own (fun (_ : β) W => Row W B L T) := fun s X Y row hs hg hrow =>
  (hg.block B hs.lt (fun e' => by obtain ⟨o, ho, hc⟩ := hrow B e'.symm; rw [hs.heap] at ho; cases ho; cases hc)).trans hs.heap
theorem own_len0 {w : World} {base : Nat} {e : TypeId} {K : Nat} {p : Option Addr} {n c m : Nat} {xs : List Value} (h : w.ownsRow base e K (.slice p n c) m xs) : n = m := by
  rcases own_open h with ⟨e1, h0⟩ | ⟨g, cap, e1, _⟩
  · injection e1 with a b d; omega
  · injection e1 with a b d
theorem prefix_step {S pre : PL} {x : Nat × Int} (h : pre <+: S) (hl : pre.length < S.length) (e : S[pre.length] = x) : pre ++ [x] <+: S := by
  obtain ⟨r, rfl⟩ := h
  cases r with
  | nil => simp at hl
  | cons a r =>
    have : a = x := by simpa using e
    subst this
    exact ⟨r, by simp⟩
theorem prefix_no {S pre : PL} {x : Nat × Int} (hl : pre.length < S.length) (e : S[pre.length] ≠ x) : ¬ pre ++ [x] <+: S := by
  rintro ⟨r, rfl⟩
  apply e
  simp

set_option maxRecDepth 100000 in
set_option maxHeartbeats 12800000 in
theorem is_any (p : Option Addr) (m : Int) (t : Option Tr) (v : Value) (L : PL) (w : World) (h : MI.MAt w p m t) (hl : SlM w v L) (hr : RelM t L) (hn : L.length ≤ 1000) :
    Calls Try.prog 35 #[.agg #[.pointer p, .int .i64 m], v] w fun e w' => e = .returned (.bool true) ∧ Below w.heap.size w w' := by
  have SQ := hr.sorted h.wf
  obtain ⟨q, hq⟩ : ∃ q, q = (toLO t).length := ⟨_, rfl⟩
  have QL : q = L.length := by rw [hq, ← SQ, sortTo_len L _ (Nat.le_refl _)]
  obtain rfl : m = (q : Int) := by rw [hq]; exact h.n
  obtain ⟨S, hS⟩ : ∃ S, S = toLO t := ⟨_, rfl⟩
  have HS := Lib.hid hS
  have HQ := Lib.hid (show q = S.length by rw [hS]; exact hq)
  have q9 : q ≤ 1000 := by omega
  have HM := Lib.hid h
  have SO := Lib.hid (fun (U : World) (k : Below w.heap.size w U) => sorted_any v L U (hl.below k) hn)
  rw [SQ, ← hS, ← QL] at SO
  clear h hl hr hn SQ hq QL hS
  refine callsIn_wide (n := 6).1 ?_
  refine callsIn_of_wp_marks Try.func35 rfl trivial ?_ rfl
  simp only [Try.ntmps35, List.size_toArray, List.length_cons, List.length_nil, Nat.reduceAdd, Nat.reduceSub, Array.replicate_succ, Array.replicate_zero, List.push_toArray, List.append_toArray, List.nil_append, List.cons_append]
  refine wpIn_wide.2 ?_
  go_upto_region 1 with fail
  refine to_cls ?_
  intro U hU z
  have r_m : ∀ z : Wb U, Row z.at w.heap.size [.pointer p, .int .i64 (q : Int)] 69 := Row.next ((Row.new _ [.pointer p, .int .i64 (q : Int)] _).old _) hU
  have r_r : ∀ z : Wb U, Row z.at (w.heap.size + 1) [.bool false] 4 := Row.next (Row.new' _ [.bool false] _ _ (by simp)) hU
  have KK := Lib.hid (KB.next (KB.alloc (KB.alloc (Below.refl w.heap.size w) _) _) hU)
  clear hU
  go_wp2_with fail
  refine (SO.out _ (KK.out z)).mono ?_
  rintro e w1 ⟨v2, rfl, ow, g⟩
  have ow := own_base ow (KK.out z).size
  obtain ⟨x1, rfl⟩ := Wb.next (x := z) g
  obtain ⟨sp, sn, sc, rfl⟩ := SlAt.form (SlAt.own ow)
  obtain rfl : q = sn := (own_len0 ow).symm
  have OW1 := Lib.hid ow
  clear g ow SO
  go_upto_region 3 with fail
  have RM := Lib.hid (r_m x1)
  have RR := Lib.hid (r_r x1)
  have KX := Lib.hid (KK.out x1)
  clear r_m r_r KK
  obtain ⟨sA, hsA⟩ : ∃ b, b = x1.at.heap.size := ⟨_, rfl⟩
  refine to_cls ?_
  intro U2 hU2 z2
  have OW := Lib.hid (own_below (own_below (World.ownsRow.alloc (World.ownsRow.alloc OW1.out _) _) hU2) z2.bel)
  have RM2 := Lib.hid ((Row.next ((RM.out.old _).old _) hU2) z2)
  have RR2 := Lib.hid ((Row.next ((RR.out.old _).old _) hU2) z2)
  have r_s := (Row.next ((Row.new x1.at [.slice sp q sc] 70).old _) hU2) z2
  have r_n : Row z2.at (x1.at.heap.size + 1) [.int .i64 0] 3 := (Row.next (Row.new' _ [.int .i64 0] _ _ (by simp)) hU2) z2
  have KZ := Lib.hid (KB.next (KB.alloc (KB.alloc KX.out _) _) hU2 z2)
  have SZ := Lib.hid (show w.heap.size + 1 < sA by rw [hsA]; exact RR.out.lt)
  rw [← hsA] at r_s r_n ⊢
  have RS := Lib.hid r_s
  have RN := Lib.hid r_n
  clear hsA hU2 r_s r_n RM RR KX OW1
  have m0 : z2.at.cell? ⟨w.heap.size, 0, none⟩ = some (.pointer p) := RM2.out.cell 0
  have m1 : z2.at.cell? ⟨w.heap.size, 1, none⟩ = some (.int .i64 (q : Int)) := RM2.out.cell 1
  go_wp2_with fail
  refine (MI.eachm_any p (q : Int) _).mono ?_
  rintro e w1 ⟨rfl, rfl⟩
  go_wp2_with fail
  have sA1 := Lib.hid (show sA + 1 < z2.at.heap.size from RN.out.lt)
  have BS := Lib.hid (show Boxed (z2.at.alloc (.cells #[.pointer p, .int .i64 (q : Int)] 69)) sA 70 (.slice sp q sc) from RS.out.old _)
  have BN := Lib.hid (show Boxed (z2.at.alloc (.cells #[.pointer p, .int .i64 (q : Int)] 69)) (sA + 1) 3 (.int .i64 0) from RN.out.old _)
  have BR := Lib.hid (show Boxed (z2.at.alloc (.cells #[.pointer p, .int .i64 (q : Int)] 69)) (w.heap.size + 1) 4 (.bool false) from RR2.out.old _)
  have BM := Lib.hid (RM2.out.old (.cells #[.pointer p, .int .i64 (q : Int)] 69))
  have OX := Lib.hid (World.ownsRow.alloc OW.out (.cells #[.pointer p, .int .i64 (q : Int)] 69))
  have TX := Lib.hid (show MI.PS (z2.at.alloc (.cells #[.pointer p, .int .i64 (q : Int)] 69)) (fun C => C < w.heap.size) p t from MI.PS.upto (KB.alloc KZ.out _) (MI.PS.lt HM.out.at'))
  have BZ := Lib.hid (show Below w.heap.size w (z2.at.alloc (.cells #[.pointer p, .int .i64 (q : Int)] 69)) from KB.alloc KZ.out _)
  have CZ := Lib.hid (show (z2.at.alloc (.cells #[.pointer p, .int .i64 (q : Int)] 69)).cell? ⟨z2.at.heap.size, 0, none⟩ = some (.pointer p) from (Row.new z2.at [.pointer p, .int .i64 (q : Int)] _).cell 0)
  obtain ⟨zS, hzS⟩ : ∃ b, b = z2.at.heap.size := ⟨_, rfl⟩
  have SW := Lib.hid (show (z2.at.alloc (.cells #[.pointer p, .int .i64 (q : Int)] 69)).heap.size = zS + 1 by rw [hzS]; simp)
  rw [← hzS] at CZ sA1 ⊢
  obtain ⟨W0, hW0⟩ : ∃ W0, W0 = z2.at.alloc (.cells #[.pointer p, .int .i64 (q : Int)] 69) := ⟨_, rfl⟩
  rw [← hW0] at BS BN BR BM OX TX BZ CZ SW ⊢
  clear hW0 hzS OW KZ RS RN RM2 RR2 m0 m1 HM
  refine wpIn_wide (n := 6).1 ?_
  refine wpIn_rangeFunc_ownG (F := Fence.wide) rfl (by omega) (gf := 57) (lb := #[.pointer (some ⟨zS, 0, none⟩)]) rfl trivial (enters_of Try.func57 (by kernel_rfl) rfl)
    (MI.each_stops Fence.wide rfl (6 - 1) trivial trivial rfl zS w.heap.size p t W0 (by rw [SW.out]; omega) BZ.out.size CZ.out TX.out) belowK_t (belowK_b BZ.out.size) (Below.refl _ _) (fun _ => rfl)
    (fun pre W => ((((∃ v, Boxed W sA 70 v ∧ W.ownsRow w.heap.size 90 2 v q (cellsM S) ∧ v = .slice sp q sc) ∧ Boxed W (sA + 1) 3 (.int .i64 (pre.length : Int))) ∧ Boxed W (w.heap.size + 1) 4 (.bool false)) ∧ Row W w.heap.size [.pointer p, .int .i64 (q : Int)] 69 ∧ pre <+: S) ∧ Below w.heap.size w W)
    (fun c pre W => c = .ret ∧ ¬ pre <+: S)
    (OwnFrom.and (OwnFrom.and (OwnFrom.and (OwnFrom.and (Own.from (holdsRow_own w.heap.size sA 70 90 2 (fun _ : PL => q) (fun _ => cellsM S) (fun _ v => v = .slice sp q sc)) _) (Own.from (boxed_own (sA + 1) 3 (fun pre : PL => Value.int .i64 (pre.length : Int))) _)) (Own.from (boxed_own (w.heap.size + 1) 4 (fun _ : PL => Value.bool false)) _)) (OwnFrom.and (Own.from (row_own w.heap.size _ _) _) (ownFrom_pure _ (fun pre : PL => pre <+: S)))) (ownFrom_below (Nat.le_refl _) BZ.out.size))
    (fun _ _ _ _ _ hs _ _ => hs)
    ⟨⟨⟨⟨⟨_, BS.out, OX.out, rfl⟩, BN.out⟩, BR.out⟩, BM.out, List.nil_prefix⟩, BZ.out⟩
    (fun x => { tmps := #[.agg #[.pointer p, .int .i64 (q : Int)], v, .pointer (some ⟨w.heap.size, 0, none⟩), undef, .pointer (some ⟨w.heap.size + 1, 0, none⟩), .pointer (some ⟨sA, 0, none⟩), .pointer (some ⟨sA + 1, 0, none⟩), .int .u64 (x.1 : Int), .int .i64 x.2, v, .slice sp q sc, .agg #[.pointer p, .int .i64 (q : Int)], .func (.func 57) #[] #[.pointer (some ⟨zS, 0, none⟩)], .int .u64 (x.1 : Int), .int .i64 x.2, undef, undef, undef, undef, undef, undef, undef, undef, undef, undef, undef, undef, undef, undef, undef, undef, undef, undef, undef, undef, undef, undef, undef, undef, undef, undef, undef, undef, undef, undef, undef, undef, undef, undef], defers := [] }) ?assign ?body ?done ?stop
  case assign =>
    intro l x W K hK
    gi_wp2
    exact hK
  case body =>
    rintro l pre ⟨xk, xv⟩ W ⟨⟨⟨⟨⟨v, hv, hrow, rfl⟩, hn⟩, hr⟩, hm, hpre⟩, hB⟩ hlt
    have hlt2 : pre.length < q := by rw [HQ.out, HS.out]; exact hlt
    have hlS : pre.length < S.length := by rw [← HQ.out]; exact hlt2
    rcases own_open hrow with ⟨_, h0⟩ | ⟨g, cap, e, _, hgl, hc⟩
    · omega
    injection e with e1 e2 e3
    subst e1 e3
    have HB := Lib.hid hB
    have HR := Lib.hid hrow
    have HV := Lib.hid hv
    have HN := Lib.hid hn
    have HRR := Lib.hid hr
    have HMM := Lib.hid hm
    have PS1 := Lib.hid (fun e => prefix_step (x := (xk, xv)) hpre hlS e)
    have PN1 := Lib.hid (fun e => prefix_no (x := (xk, xv)) hlS e)
    have ck := hc _ _ (cellsM_get S pre.length hlS).1
    have cv := hc _ _ (cellsM_get S pre.length hlS).2
    have cs := hv.cell
    have cn := hn.cell
    have fn := hn.frozen
    have cr := hr.cell
    have fr := hr.frozen
    obtain ⟨⟨sk, sv⟩, hsk⟩ : ∃ s, s = S[pre.length] := ⟨_, rfl⟩
    rw [← hsk] at ck cv PS1 PN1
    simp only at ck cv
    have capm := (own_cap3 hrow).1
    obtain ⟨i, hi⟩ : ∃ i, i = pre.length := ⟨_, rfl⟩
    rw [← hi] at ck cv cn hlt2
    have HI := Lib.hid hi
    clear hsk hlt hB hrow hv hn hr hm hpre hlS hc hgl
    rw [show ((pre.length : Nat) : Int) = (i : Int) by rw [hi]] at HN
    clear hi
    have i0 : (0 : Int) ≤ (i : Int) := by omega
    have i1 : (i : Int) < (q : Int) := by omega
    have i2 : (q : Int) ≤ 1000 := by omega
    have dq : decide ((q : Int) ≤ (i : Int)) = false := by simp; omega
    have dq2 : decide (q ≤ i) = false := by simp; omega
    by_cases ek : sk = xk
    · have bk : ((sk : Int) != (xk : Int)) = false := by simp [ek]
      by_cases ev : sv = xv
      · have bv : (sv != xv) = false := by simp [ev]
        have PP := Lib.hid (PS1.out (by rw [ek, ev]))
        clear ek ev PS1 PN1
        gi_wp2
        exact ⟨(KeepsOthers.setCell _ _ _).from _, (Below.refl _ _).setCell (p := ⟨sA + 1, 0, none⟩) (by have := SZ.out; show w.heap.size ≤ sA + 1; omega) _, ⟨⟨⟨⟨HV.out.other (by omega) _, HR.out.kept (grownBy_setCell' W (sA + 1) _) (Or.inr fun e => HN.out.not_row (by decide) HR.out e.symm)⟩, by rw [List.length_append, ← HI.out]; exact HN.out.set _⟩, HRR.out.other (by have := SZ.out; omega) _⟩, HMM.out.oth (by have := SZ.out; omega) 0 _, PP.out⟩, HB.out.setCell (p := ⟨sA + 1, 0, none⟩) (by have := SZ.out; show w.heap.size ≤ sA + 1; omega) _⟩
      · have bv : (sv != xv) = true := by simpa using ev
        have PP := Lib.hid (PN1.out (fun e => ev (congrArg (·.2) e)))
        clear ek ev PS1 PN1
        gi_wp2
        exact ⟨(KeepsOthers.setCell _ _ _).from _, rfl, PP.out⟩
    · have bk : ((sk : Int) != (xk : Int)) = true := by simp; omega
      have PP := Lib.hid (PN1.out (fun e => ek (congrArg (·.1) e)))
      clear ek PS1 PN1
      gi_wp2
      exact ⟨(KeepsOthers.setCell _ _ _).from _, rfl, PP.out⟩
  case done =>
    rintro D ys W hD rfl ⟨⟨⟨⟨⟨v, hv, hrow, rfl⟩, hn⟩, hr⟩, hm, hpre⟩, hB⟩ hK
    rw [← HS.out, ← HQ.out] at hn
    have cs : ∀ x : Wb W, x.at.cell? ⟨sA, 0, none⟩ = some (.slice sp q sc) := fun x => Boxed.cell ((x.bel.block _ hv.lt).trans hv)
    have cn : ∀ x : Wb W, x.at.cell? ⟨sA + 1, 0, none⟩ = some (.int .i64 (q : Int)) := fun x => Boxed.cell ((x.bel.block _ hn.lt).trans hn)
    have cm0 : ∀ x : Wb W, x.at.cell? ⟨w.heap.size, 0, none⟩ = some (.pointer p) := fun x => (hm.below x.bel).cell 0
    have cm1 : ∀ x : Wb W, x.at.cell? ⟨w.heap.size, 1, none⟩ = some (.int .i64 (q : Int)) := fun x => (hm.below x.bel).cell 1
    have BX := Lib.hid (fun x : Wb W => (show Boxed x.at (w.heap.size + 1) 4 (.bool false) from (x.bel.block _ hr.lt).trans hr))
    have DX := Lib.hid (fun x : Wb W => (x.bel.block D (Array.getElem?_eq_some_iff.1 hK).1).trans hK)
    have HB := Lib.hid hB
    clear hrow hpre hB hr hn hv hm hK
    go_wp2_with fail
    refine wp_region_wb_tail 10 (by kernel_rfl) (by kernel_rfl) ?_
    simp only [List.take_succ_cons, List.take_zero, List.drop_succ_cons, List.drop_zero]
    repeat (go_big_quiet_step ((go_at_call 54; exact Calls.wb (MI.maplen_any p (q : Int) _))))
    refine wpQuiet_nil ?_
    rintro _ ⟨x, rfl⟩
    have cr := (BX.out x).cell
    have fr := (BX.out x).frozen
    go_wp2
    have hl9 := (BX.out x).lt
    have D9 : (x.at.setCell ⟨w.heap.size + 1, 0, none⟩ (.bool true)).heap[D]? = some (.deferred (some [])) := (heap_setCell_other _ _ _ _ (by have := SW.out; have := sA1.out; have := SZ.out; show D ≠ w.heap.size + 1; omega)).trans (DX.out x)
    have B9 : Boxed ((x.at.setCell ⟨w.heap.size + 1, 0, none⟩ (.bool true)).putObj D (.deferred none)) (w.heap.size + 1) 4 (.bool true) := ((BX.out x).set (.bool true)).kept (grownBy_putObj' _ _ _) (by have := SW.out; have := sA1.out; have := SZ.out; simp only [ne_eq, Option.some.injEq]; omega)
    have c9 := B9.cell
    refine ⟨by simp, .inl ⟨_, _, rfl, run_takeDeferred D9, ?_⟩⟩
    refine ⟨.bool true, by simp [results, Try.results35, go_sem, c9], ?_⟩
    exact ⟨rfl, ((HB.out.trans (x.bel.mono HB.out.size)).setCell (p := ⟨w.heap.size + 1, 0, none⟩) (by show w.heap.size ≤ w.heap.size + 1; omega) _).trans (belowK_b (w := w) (Nat.le_refl _) _ D _ _ (Nat.le_trans BZ.out.size hD) D9 rfl rfl)⟩
  case stop =>
    rintro D c pre W _ hSp ⟨_, hno⟩ _
    exact absurd (by rw [HS.out]; exact hSp) hno
end Go.Proofs.Ytnpgpbcpgniloaa

namespace GrS
abbrev OpL := List (Bool × Nat × Int)
def opsC (L : OpL) : List Go.Value := L.flatMap fun p => [.bool p.1, .int .u64 (p.2.1 : Int), .int .i64 p.2.2]
theorem opsC_len (L : OpL) : (opsC L).length = L.length * 3 := by
  induction L with
  | nil => rfl
  | cons p L ih => show (_ :: _ :: _ :: opsC L).length = _; simp [ih]; omega
theorem opsC_get (L : OpL) (k : Nat) (h : k < L.length) : (opsC L)[k * 3]? = some (.bool L[k].1) ∧ (opsC L)[k * 3 + 1]? = some (.int .u64 (L[k].2.1 : Int)) ∧ (opsC L)[k * 3 + 2]? = some (.int .i64 L[k].2.2) := by
  induction L generalizing k with
  | nil => simp at h
  | cons p L ih =>
    have e : opsC (p :: L) = .bool p.1 :: .int .u64 (p.2.1 : Int) :: .int .i64 p.2.2 :: opsC L := rfl
    rw [e]
    cases k with
    | zero => simp
    | succ k =>
      have := ih k (by simp at h; omega)
      rw [show (k + 1) * 3 = k * 3 + 3 by omega]
      simpa using this
def BdO (L : OpL) : Prop := ∀ p ∈ L, p.2.1 < 18446744073709551616
end GrS
namespace Go.Proofs.Ytnpgpbcpgniloaa
open Go.RowKit GrS

def SlO (W : World) (v : Value) (L : OpL) : Prop := SlAt W v 3 L.length (opsC L)
theorem SlO.below {W U : World} {v : Value} {L : OpL} (h : SlO W v L) (k : Below W.heap.size W U) : SlO U v L := SlAt.below h k
theorem off_add (b : Addr) (i : Nat) (hi : i ≠ 0) : (⟨b.block, b.off + i, none⟩ : Addr) = b.add i := by unfold Addr.add; rw [if_neg hi]
theorem SlO.at {W : World} {a : Addr} {n c : Nat} {L : OpL} (h : SlO W (.slice (some a) n c) L) (k : Nat) (hk : k < L.length) : W.cell? (a.add (k * 3)) = some (.bool L[k].1) ∧ W.cell? ⟨(a.add (k * 3)).block, (a.add (k * 3)).off + 1, none⟩ = some (.int .u64 (L[k].2.1 : Int)) ∧ W.cell? ⟨(a.add (k * 3)).block, (a.add (k * 3)).off + 2, none⟩ = some (.int .i64 L[k].2.2) := by
  obtain ⟨_, ⟨e, _⟩ | ⟨b, cap, e, _, _, hx⟩⟩ := h
  · cases e
  · injection e with e1 e2 e3
    injection e1 with e1
    subst e1
    obtain ⟨g0, g1, g2⟩ := opsC_get L k hk
    exact ⟨hx _ _ g0, by rw [off_add _ _ (by decide), add_add]; exact hx _ _ g1, by rw [off_add _ _ (by decide), add_add]; exact hx _ _ g2⟩
theorem SlO.len {W : World} {a : Option Addr} {n c : Nat} {L : OpL} (h : SlO W (.slice a n c) L) : n = L.length := by
  obtain ⟨_, ⟨e, h0⟩ | ⟨b, cap, e, _⟩⟩ := h
  · injection e with e1 e2 e3; omega
  · injection e with e1 e2 e3
theorem SlO.addr {W : World} {p : Option Addr} {n c : Nat} {L : OpL} (h : SlO W (.slice p n c) L) (hn : 0 < n) : ∃ a, p = some a := by
  obtain ⟨_, ⟨e, h0⟩ | ⟨a, cp, e, _⟩⟩ := h
  · injection e with e1 e2 e3
    omega
  · injection e with e1 e2 e3
    exact ⟨a, e1⟩
theorem relM_len {t : Option Tr} {L : PL} (h : RelM t L) (hw : WFO t) : (toLO t).length = L.length := by
  rw [← h.sorted hw, sortTo_len L _ (Nat.le_refl _)]

set_option maxRecDepth 100000 in
set_option maxHeartbeats 12800000 in
theorem played_any (v : Value) (S : OpL) (w : World) (h : SlO w v S) (hb : BdO S) :
    Calls Try.prog 32 #[v] w fun e w' => ∃ p n t lv L, e = .returned (.tuple #[.agg #[.pointer p, .int .i64 n], lv]) ∧ MI.MAt w' p n t ∧ w'.ownsRow w.heap.size 90 2 lv L.length (cellsM L) ∧ RelM t L ∧ L.length ≤ 60 ∧ Below w.heap.size w w' := by
  obtain ⟨sp, sn, sc, rfl⟩ := SlAt.form h
  have HN := Lib.hid h.len
  have HS := Lib.hid h
  have HB := Lib.hid hb
  have q0 : 0 ≤ (sn : Int) := by omega
  clear h hb
  go_enter Try.func32, Try.ntmps32
  go_wp2_with fail
  obtain ⟨M, hM⟩ : ∃ M, M = w.heap.size + 1 := ⟨_, rfl⟩
  obtain ⟨R, hR⟩ : ∃ R, R = w.heap.size := ⟨_, rfl⟩
  have RM0 := Lib.hid (show Row ((w.alloc (.cells #[.pointer none, .int .i64 0] 69)).alloc (.cells #[.pointer none, .int .i64 0] 69)) M [.pointer none, .int .i64 0] 69 from Row.new' _ [.pointer none, .int .i64 0] _ _ (by rw [hM]; simp))
  have RR0 := Lib.hid (show Row ((w.alloc (.cells #[.pointer none, .int .i64 0] 69)).alloc (.cells #[.pointer none, .int .i64 0] 69)) R [.pointer none, .int .i64 0] 69 from (Row.new' _ [.pointer none, .int .i64 0] _ _ hR.symm).old _)
  have KB0 := Lib.hid (KB.alloc (KB.alloc (Below.refl w.heap.size w) (.cells #[.pointer none, .int .i64 0] 69)) (.cells #[.pointer none, .int .i64 0] 69))
  have ZS := Lib.hid (show ((w.alloc (.cells #[.pointer none, .int .i64 0] 69)).alloc (.cells #[.pointer none, .int .i64 0] 69)).heap.size = w.heap.size + 2 by simp)
  have HM := Lib.hid hM
  have HR := Lib.hid hR
  simp only [← hM]
  simp only [← hR]
  clear hM hR
  go_loopw [5, 6] (fun lv i wr => ∃ (k : Nat) (p : Option Addr) (n : Int) (t : Option Tr) (L : PL), k ≤ sn ∧ k ≤ 60 ∧ i = .int .i64 (k : Int) ∧ Row wr M [.pointer p, .int .i64 n] 69 ∧ Row wr R [.pointer none, .int .i64 0] 69 ∧ MI.MAt wr p n t ∧ wr.ownsRow (w.heap.size + 2) 90 2 lv L.length (cellsM L) ∧ RelM t L ∧ L.length ≤ k ∧ Below w.heap.size w wr) (fun _ i _ => 60 - (intOf i).toNat)
  case atStart => exact ⟨0, none, 0, none, [], by omega, by omega, rfl, RM0.out, RR0.out, ⟨rfl, rfl, trivial⟩, World.ownsRow_nil _ _ _ _, RelM.nil, by simp, KB0.out⟩
  case round =>
    obtain ⟨k, p, n, t, L, hk, hk2, rfl, hm, hr, hma, hown, hrel2, hlen, hbel⟩ := hrel
    have RM := Lib.hid hm
    have RR := Lib.hid hr
    have MA := Lib.hid hma
    have OW := Lib.hid hown
    have RL := Lib.hid hrel2
    have LK := Lib.hid (show L.length ≤ 60 by omega)
    have LK1 := Lib.hid hlen
    have BB := Lib.hid hbel
    have NL := Lib.hid (show n ≤ 60 by rw [hma.n, relM_len hrel2 hma.wf]; omega)
    have SW0 := Lib.hid (show w.heap.size + 2 ≤ wr.heap.size by have := hm.lt; rw [HM.out] at this; omega)
    clear hm hr hma hown hrel2 hlen hbel
    have wM := Lib.hid (show w.heap.size ≤ M by rw [HM.out]; omega)
    have MR := Lib.hid (show M ≠ R by rw [HM.out, HR.out]; omega)
    have k0 : (0 : Int) ≤ (k : Int) := by omega
    by_cases ck : k < sn
    · by_cases c6 : k < 60
      · have lk : k < S.length := by have := HN.out; omega
        obtain ⟨a, rfl⟩ := SlO.addr HS.out (by omega)
        have CH := Lib.hid (fun (U : World) (k2 : Below w.heap.size w U) => (HS.out.below k2).at k lk)
        have X1 := Lib.hid (HB.out S[k] (List.getElem_mem lk))
        obtain ⟨⟨x0, x1, x2⟩, hx⟩ : ∃ p, p = S[k] := ⟨_, rfl⟩
        rw [← hx] at CH X1
        simp only at CH X1
        clear hx lk
        have CW := Lib.hid (fun z : Wb wr => CH.out _ (KB.at BB.out z))
        have y0 := (CH.out _ BB.out).1
        have i1 : (k : Int) < (sn : Int) := by omega
        have d1 : decide ((k : Int) < (sn : Int)) = true := by simpa using i1
        have d2 : decide ((k : Int) < 60) = true := by simp; omega
        cases x0
        · go_upto_region 9 with fail
          have r_m : ∀ z : Wb wr, Row z.at M [.pointer p, .int .i64 n] 69 := Row.at RM.out
          have m0 : ∀ z : Wb wr, z.at.cell? ⟨M, 0, none⟩ = some (.pointer p) := fun z => (r_m z).cell 0
          have m1 : ∀ z : Wb wr, z.at.cell? ⟨M, 1, none⟩ = some (.int .i64 n) := fun z => (r_m z).cell 1
          have fm : ∀ (z : Wb wr) (i : Nat), z.at.frozen? ⟨M, i, none⟩ = false := fun z i => (r_m z).free i
          have s1 : ∀ z : Wb wr, z.at.cell? ⟨(a.add (k * 3)).block, (a.add (k * 3)).off + 1, none⟩ = some (.int .u64 (x1 : Int)) := fun z => (CW.out z).2.1
          have s2 : ∀ z : Wb wr, z.at.cell? ⟨(a.add (k * 3)).block, (a.add (k * 3)).off + 2, none⟩ = some (.int .i64 x2) := fun z => (CW.out z).2.2
          have MC := Lib.hid (fun z : Wb wr => MI.With_any p n t x1 x2 z.at (MA.out.below z.bel) X1.out (by have := NL.out; omega))
          refine wp_region_wb_tail 11 (by kernel_rfl) (by kernel_rfl) ?_
          simp only [List.take_succ_cons, List.take_zero, List.drop_succ_cons, List.drop_zero]
          repeat (go_big_quiet_step (fail))
          refine wpQuiet_nil ?_
          rintro _ ⟨x, rfl⟩
          go_wp2_with fail
          refine (MC.out x).mono ?_
          rintro e w2 ⟨p2, n2, rfl, g, ma⟩
          have MA2 := Lib.hid ma
          clear ma MC
          obtain ⟨y, rfl⟩ := Wb.next (x := x) g
          clear g
          have MA3 := Lib.hid (show MI.MAt ((y.at.setCell ⟨M, 0, none⟩ (.pointer p2)).setCell ⟨M, 1, none⟩ (.int .i64 n2)) p2 n2 (some (insO t x1 x2)) from (MA2.out.set (r_m y) (by simp) 0 _).set ((r_m y).set 0 _) (by simp) 1 _)
          have OW3 := Lib.hid (show ((y.at.setCell ⟨M, 0, none⟩ (.pointer p2)).setCell ⟨M, 1, none⟩ (.int .i64 n2)).ownsRow (w.heap.size + 2) 90 2 u5 L.length (cellsM L) from own_set (C := M) (own_set (C := M) (own_below OW.out y.bel) (by rw [HM.out]; omega) 0 _) (by rw [HM.out]; omega) 1 _)
          have RM3 := Lib.hid (show Row ((y.at.setCell ⟨M, 0, none⟩ (.pointer p2)).setCell ⟨M, 1, none⟩ (.int .i64 n2)) M [.pointer p2, .int .i64 n2] 69 from ((r_m y).set 0 _).set 1 _)
          have RR3 := Lib.hid (show Row ((y.at.setCell ⟨M, 0, none⟩ (.pointer p2)).setCell ⟨M, 1, none⟩ (.int .i64 n2)) R [.pointer none, .int .i64 0] 69 from ((RR.out.below y.bel).oth (C := M) MR.out.symm 0 _).oth (C := M) MR.out.symm 1 _)
          have KB3 := Lib.hid (show Below w.heap.size w ((y.at.setCell ⟨M, 0, none⟩ (.pointer p2)).setCell ⟨M, 1, none⟩ (.int .i64 n2)) from KB.put (KB.put (BB.out.trans (y.bel.mono BB.out.size)) wM.out 0 _) wM.out 1 _)
          have SY := Lib.hid (show y.at.heap.size = ((y.at.setCell ⟨M, 0, none⟩ (.pointer p2)).setCell ⟨M, 1, none⟩ (.int .i64 n2)).heap.size by simp)
          have SW := Lib.hid (show w.heap.size + 2 ≤ y.at.heap.size from Nat.le_trans SW0.out y.bel.size)
          go_upto_region 10 with fail
          obtain ⟨V, hV⟩ : ∃ V, V = (y.at.setCell ⟨M, 0, none⟩ (.pointer p2)).setCell ⟨M, 1, none⟩ (.int .i64 n2) := ⟨_, rfl⟩
          rw [← hV] at MA3 OW3 RM3 RR3 KB3 SY ⊢
          clear hV s1 s2 m0 m1 fm r_m MA2
          have s1 : ∀ z : Wb V, z.at.cell? ⟨(a.add (k * 3)).block, (a.add (k * 3)).off + 1, none⟩ = some (.int .u64 (x1 : Int)) := fun z => (CH.out _ (KB.at KB3.out z)).2.1
          have s2 : ∀ z : Wb V, z.at.cell? ⟨(a.add (k * 3)).block, (a.add (k * 3)).off + 2, none⟩ = some (.int .i64 x2) := fun z => (CH.out _ (KB.at KB3.out z)).2.2
          refine wp_region_wb_tail 11 (by kernel_rfl) (by kernel_rfl) ?_
          simp only [List.take_succ_cons, List.take_zero, List.drop_succ_cons, List.drop_zero]
          repeat (go_big_quiet_step (fail))
          refine wpQuiet_nil ?_
          rintro _ ⟨z, rfl⟩
          go_wp2_with fail
          refine (pwith_any u5 L x1 x2 z.at (SlAt.own (own_below OW3.out z.bel)) (by have := LK.out; omega)).mono ?_
          rintro e w3 ⟨lv2, rfl, ow, g⟩
          have g := Below.trans z.bel (g.mono z.bel.size)
          have ow := own_base ow z.bel.size
          have OW4 := Lib.hid (own_base ow (show w.heap.size + 2 ≤ V.heap.size by have := SW.out; have := SY.out; omega))
          have G4 := Lib.hid (show Below V.heap.size V w3 from g)
          clear ow g s1 s2
          go_wp2
          go_roundw
          case rel => exact ⟨k + 1, p2, n2, _, (winL L x1 x2), by omega, by omega, by go_num, RM3.out.below G4.out, RR3.out.below G4.out, MA3.out.below G4.out, OW4.out, RL.out.win MA.out.wf X1.out x2, by have := winL_len L x1 x2; have := LK1.out; omega, KB3.out.trans (G4.out.mono KB3.out.size)⟩
          case measure => simp [intOf]; omega
        · go_upto_region 7 with fail
          have r_m : ∀ z : Wb wr, Row z.at M [.pointer p, .int .i64 n] 69 := Row.at RM.out
          have m0 : ∀ z : Wb wr, z.at.cell? ⟨M, 0, none⟩ = some (.pointer p) := fun z => (r_m z).cell 0
          have m1 : ∀ z : Wb wr, z.at.cell? ⟨M, 1, none⟩ = some (.int .i64 n) := fun z => (r_m z).cell 1
          have fm : ∀ (z : Wb wr) (i : Nat), z.at.frozen? ⟨M, i, none⟩ = false := fun z i => (r_m z).free i
          have s1 : ∀ z : Wb wr, z.at.cell? ⟨(a.add (k * 3)).block, (a.add (k * 3)).off + 1, none⟩ = some (.int .u64 (x1 : Int)) := fun z => (CW.out z).2.1
          have s2 : ∀ z : Wb wr, z.at.cell? ⟨(a.add (k * 3)).block, (a.add (k * 3)).off + 2, none⟩ = some (.int .i64 x2) := fun z => (CW.out z).2.2
          have MC := Lib.hid (fun z : Wb wr => MI.Without_any p n t x1 z.at (MA.out.below z.bel) X1.out (by have := NL.out; omega))
          refine wp_region_wb_tail 6 (by kernel_rfl) (by kernel_rfl) ?_
          simp only [List.take_succ_cons, List.take_zero, List.drop_succ_cons, List.drop_zero]
          repeat (go_big_quiet_step (fail))
          refine wpQuiet_nil ?_
          rintro _ ⟨x, rfl⟩
          go_wp2_with fail
          refine (MC.out x).mono ?_
          rintro e w2 ⟨p2, n2, rfl, g, ma⟩
          have MA2 := Lib.hid ma
          clear ma MC
          obtain ⟨y, rfl⟩ := Wb.next (x := x) g
          clear g
          have MA3 := Lib.hid (show MI.MAt ((y.at.setCell ⟨M, 0, none⟩ (.pointer p2)).setCell ⟨M, 1, none⟩ (.int .i64 n2)) p2 n2 (delO t x1) from (MA2.out.set (r_m y) (by simp) 0 _).set ((r_m y).set 0 _) (by simp) 1 _)
          have OW3 := Lib.hid (show ((y.at.setCell ⟨M, 0, none⟩ (.pointer p2)).setCell ⟨M, 1, none⟩ (.int .i64 n2)).ownsRow (w.heap.size + 2) 90 2 u5 L.length (cellsM L) from own_set (C := M) (own_set (C := M) (own_below OW.out y.bel) (by rw [HM.out]; omega) 0 _) (by rw [HM.out]; omega) 1 _)
          have RM3 := Lib.hid (show Row ((y.at.setCell ⟨M, 0, none⟩ (.pointer p2)).setCell ⟨M, 1, none⟩ (.int .i64 n2)) M [.pointer p2, .int .i64 n2] 69 from ((r_m y).set 0 _).set 1 _)
          have RR3 := Lib.hid (show Row ((y.at.setCell ⟨M, 0, none⟩ (.pointer p2)).setCell ⟨M, 1, none⟩ (.int .i64 n2)) R [.pointer none, .int .i64 0] 69 from ((RR.out.below y.bel).oth (C := M) MR.out.symm 0 _).oth (C := M) MR.out.symm 1 _)
          have KB3 := Lib.hid (show Below w.heap.size w ((y.at.setCell ⟨M, 0, none⟩ (.pointer p2)).setCell ⟨M, 1, none⟩ (.int .i64 n2)) from KB.put (KB.put (BB.out.trans (y.bel.mono BB.out.size)) wM.out 0 _) wM.out 1 _)
          have SY := Lib.hid (show y.at.heap.size = ((y.at.setCell ⟨M, 0, none⟩ (.pointer p2)).setCell ⟨M, 1, none⟩ (.int .i64 n2)).heap.size by simp)
          have SW := Lib.hid (show w.heap.size + 2 ≤ y.at.heap.size from Nat.le_trans SW0.out y.bel.size)
          go_upto_region 8 with fail
          obtain ⟨V, hV⟩ : ∃ V, V = (y.at.setCell ⟨M, 0, none⟩ (.pointer p2)).setCell ⟨M, 1, none⟩ (.int .i64 n2) := ⟨_, rfl⟩
          rw [← hV] at MA3 OW3 RM3 RR3 KB3 SY ⊢
          clear hV s1 s2 m0 m1 fm r_m MA2
          have CV := (CH.out _ KB3.out).2
          have s1 := CV.1
          have s2 := CV.2
          go_wp2_with fail
          refine (pwithout_any u5 L x1 V (SlAt.own OW3.out) (by have := LK.out; omega)).mono ?_
          rintro e w3 ⟨lv2, rfl, ow, g⟩
          have OW4 := Lib.hid (own_base ow (show w.heap.size + 2 ≤ V.heap.size by have := SW.out; have := SY.out; omega))
          have G4 := Lib.hid (show Below V.heap.size V w3 from g)
          clear ow g s1 s2
          go_wp2
          go_roundw
          case rel => exact ⟨k + 1, p2, n2, _, (witL L x1), by omega, by omega, by go_num, RM3.out.below G4.out, RR3.out.below G4.out, MA3.out.below G4.out, OW4.out, RL.out.wit MA.out.wf x1, by have := witL_len L x1; have := LK1.out; omega, KB3.out.trans (G4.out.mono KB3.out.size)⟩
          case measure => simp [intOf]; omega
      · have d1 : decide ((k : Int) < (sn : Int)) = true := by simp; omega
        have d2 : decide ((k : Int) < 60) = false := by simp; omega
        have m0 : wr.cell? ⟨M, 0, none⟩ = some (.pointer p) := RM.out.cell 0
        have m1 : wr.cell? ⟨M, 1, none⟩ = some (.int .i64 n) := RM.out.cell 1
        have s0 : wr.cell? ⟨R, 0, none⟩ = some (.pointer none) := RR.out.cell 0
        have s1 : wr.cell? ⟨R, 1, none⟩ = some (.int .i64 0) := RR.out.cell 1
        have f0 : wr.frozen? ⟨R, 0, none⟩ = false := RR.out.free 0
        have f1 : wr.frozen? ⟨R, 1, none⟩ = false := RR.out.free 1
        have wR := Lib.hid (show w.heap.size ≤ R by rw [HR.out]; omega)
        have R2 := Lib.hid (show R < w.heap.size + 2 by rw [HR.out]; omega)
        go_wp2
        exact bodyPost_ret (v := .tuple #[.agg #[.pointer p, .int .i64 n], u5]) (by simp [results, Try.results32, go_sem, *]) rfl ⟨p, n, t, u5, L, rfl, (MA.out.set RR.out (by simp) 0 _).set (RR.out.set 0 _) (by simp) 1 _, own_base (own_set (own_set OW.out R2.out 0 _) R2.out 1 _) (by omega), RL.out, LK.out, KB.put (KB.put BB.out wR.out 0 _) wR.out 1 _⟩
    · have d1 : decide ((k : Int) < (sn : Int)) = false := by simp; omega
      have m0 : wr.cell? ⟨M, 0, none⟩ = some (.pointer p) := RM.out.cell 0
      have m1 : wr.cell? ⟨M, 1, none⟩ = some (.int .i64 n) := RM.out.cell 1
      have s0 : wr.cell? ⟨R, 0, none⟩ = some (.pointer none) := RR.out.cell 0
      have s1 : wr.cell? ⟨R, 1, none⟩ = some (.int .i64 0) := RR.out.cell 1
      have f0 : wr.frozen? ⟨R, 0, none⟩ = false := RR.out.free 0
      have f1 : wr.frozen? ⟨R, 1, none⟩ = false := RR.out.free 1
      have wR := Lib.hid (show w.heap.size ≤ R by rw [HR.out]; omega)
      have R2 := Lib.hid (show R < w.heap.size + 2 by rw [HR.out]; omega)
      go_wp2
      exact bodyPost_ret (v := .tuple #[.agg #[.pointer p, .int .i64 n], u5]) (by simp [results, Try.results32, go_sem, *]) rfl ⟨p, n, t, u5, L, rfl, (MA.out.set RR.out (by simp) 0 _).set (RR.out.set 0 _) (by simp) 1 _, own_base (own_set (own_set OW.out R2.out 0 _) R2.out 1 _) (by omega), RL.out, LK.out, KB.put (KB.put BB.out wR.out 0 _) wR.out 1 _⟩
end Go.Proofs.Ytnpgpbcpgniloaa

namespace Go.Proofs.Ytnpgpbcpgniloaa
open Go.RowKit GrS

set_option maxRecDepth 100000 in
set_option maxHeartbeats 12800000 in
theorem StoreMaps_walk (v : Value) (S : OpL) (k : Nat) (w : World) (h : SlO w v S) (hb : BdO S) (hk : k < 18446744073709551616) :
    Calls Try.prog 8 #[v, .int .u64 (k : Int)] w fun e w' => e = .returned (.bool true) ∧ Below w.heap.size w w' := by
  have AW := Lib.hid (fun w => awake6_any w)
  have HS := Lib.hid h
  have HB := Lib.hid hb
  have HK := Lib.hid hk
  clear h hb hk
  go_enter Try.func8, Try.ntmps8
  go_wp2_with fail
  refine (AW.out _).mono ?_
  rintro e w1 ⟨rfl, g⟩
  obtain ⟨x0, rfl⟩ := Wb.start g
  clear g
  go_wp2_with fail
  refine (played_any v S x0.at (HS.out.below x0.bel) HB.out).mono ?_
  rintro e w2 ⟨p, n, t, lv, L, rfl, ma, ow, rl, ll, g⟩
  obtain ⟨x1, rfl⟩ := Wb.next (x := x0) g
  have MA1 := Lib.hid ma
  have OW1 := Lib.hid ow
  have RL := Lib.hid rl
  have LL := Lib.hid ll
  clear ma ow rl ll g
  go_upto_region 4 with fail
  have KK1 := Lib.hid (KB.at (Below.refl w.heap.size w) x1)
  refine to_cls ?_
  intro U hU z
  have r_m : ∀ z : Wb U, Row z.at x1.at.heap.size [.pointer p, .int .i64 n] 69 := Row.next (Row.new _ [.pointer p, .int .i64 n] _) hU
  have KX := Lib.hid (fun z : Wb U => (show Below x1.at.heap.size x1.at z.at from (KB.alloc (Below.refl _ _) _ : Below x1.at.heap.size x1.at _).trans ((hU.trans (z.bel.mono hU.size)).mono (by simp))))
  have KK := Lib.hid (fun z : Wb U => KK1.out.trans ((KX.out z).mono KK1.out.size))
  have MA := Lib.hid (fun z : Wb U => MA1.out.below (KX.out z))
  have OW := Lib.hid (fun z : Wb U => SlAt.own (own_below OW1.out (KX.out z)))
  have m0 : ∀ z : Wb U, z.at.cell? ⟨x1.at.heap.size, 0, none⟩ = some (.pointer p) := fun z => (r_m z).cell 0
  have m1 : ∀ z : Wb U, z.at.cell? ⟨x1.at.heap.size, 1, none⟩ = some (.int .i64 n) := fun z => (r_m z).cell 1
  have GM := Lib.hid (fun z : Wb U => MI.mget_any p n t k z.at (MA.out z) HK.out)
  have GP := Lib.hid (fun z : Wb U => pget_any lv L k z.at (OW.out z) (by have := LL.out; omega))
  rw [getR_assoc RL.out.once, ← RL.out.look] at GP
  obtain ⟨o, ho⟩ : ∃ o, o = lookO t k := ⟨_, rfl⟩
  rw [← ho] at GM GP
  obtain ⟨B, hB⟩ : ∃ B, B = x1.at.heap.size := ⟨_, rfl⟩
  rw [← hB] at m0 m1
  simp only [← hB]
  clear hU hB ho r_m
  have IS := Lib.hid (fun z : Wb U => is_any p n t lv L z.at (MA.out z) (OW.out z) RL.out (by have := LL.out; omega))
  cases o
  all_goals
    simp only [MI.getV] at GM GP
    go_wp2_with fail
    refine (GM.out _).mono ?_
    rintro e w3 ⟨rfl, g⟩
    obtain ⟨z3, rfl⟩ := Wb.next (x := z) g
    clear g
    go_wp2_with fail
    refine (GP.out _).mono ?_
    rintro e w3 ⟨rfl, g⟩
    obtain ⟨z4, rfl⟩ := Wb.next (x := z3) g
    clear g
    go_wp2_with fail
    refine (IS.out _).mono ?_
    rintro e w3 ⟨rfl, g⟩
    obtain ⟨z5, rfl⟩ := Wb.next (x := z4) g
    clear g
    go_wp2
    go_ret
    exact ⟨rfl, KK.out _⟩
theorem SlO_rows {v : Value} {n : Nat} {R : Nat → List Value} {w : World} (s : SlAt w v 3 n ((List.range n).flatMap R)) (g : ∀ i, i < n → ∃ q : Bool × Nat × Int, R i = [.bool q.1, .int .u64 (q.2.1 : Int), .int .i64 q.2.2] ∧ q.2.1 < 18446744073709551616) : ∃ S : OpL, SlO w v S ∧ BdO S := by
  obtain ⟨KX, hKX⟩ := Go.Deep.choose_lt (α := Bool × Nat × Int) g
  refine ⟨(List.range n).map KX, ?_, fun p hp => ?_⟩
  · have e : opsC ((List.range n).map KX) = (List.range n).flatMap R := by
      unfold opsC
      rw [List.flatMap_map]
      exact Go.Deep.flatMap_congr_range fun i hi => (hKX i hi).1.symm
    unfold SlO
    rw [e, List.length_map, List.length_range]
    exact s
  · obtain ⟨i, hi, rfl⟩ := List.mem_map.1 hp
    exact (hKX i (List.mem_range.1 hi)).2
section
variable {H : Type} {enc : TypeId × Value → H} {w : World} {base : Nat} {spare : Nat → Bool} {held : Bool}
theorem open_op6 {R : List Value} {m : Nat} {y : DataW H × List MemPlace} (h : R.length = 3) (hf : DataW.trod enc Try.prog w base spare held m 79 R = some y) :
    ∃ q : Bool × Nat × Int, R = [.bool q.1, .int .u64 (q.2.1 : Int), .int .i64 q.2.2] ∧ q.2.1 < 18446744073709551616 := by
  match R, h with
  | [c0, c1, c2], _ =>
    have f := open_fields_cells Try.underlying79 (by kernel_rfl) rfl hf
    obtain ⟨_, y0, n0, e0, g0⟩ := f 0 _ rfl
    simp only [List.getElem?_cons_zero, List.getElem?_cons_succ, Option.some.injEq] at e0
    subst e0
    obtain ⟨a0, u0, _⟩ := DataW.trod_bool Try.underlying4 g0
    simp only [List.cons.injEq, and_true] at u0
    subst u0
    obtain ⟨_, y1, n1, e1, g1⟩ := f 1 _ rfl
    simp only [List.getElem?_cons_zero, List.getElem?_cons_succ, Option.some.injEq] at e1
    subst e1
    obtain ⟨a1, u1, _, w1⟩ := DataW.trod_int Try.underlying22 g1
    simp only [List.cons.injEq, and_true] at u1
    subst u1
    obtain ⟨_, y2, n2, e2, g2⟩ := f 2 _ rfl
    simp only [List.getElem?_cons_zero, List.getElem?_cons_succ, Option.some.injEq] at e2
    subst e2
    obtain ⟨a2, u2, _, w2⟩ := DataW.trod_int Try.underlying3 g2
    simp only [List.cons.injEq, and_true] at u2
    subst u2
    have b := bd_u64 w1
    refine ⟨(a0, a1.toNat, a2), ?_, ?_⟩
    · simp only [Int.toNat_of_nonneg b.1]
    · simp only; omega
end
theorem StoreMaps_rows (v : Value) (n : Nat) (R : Nat → List Value) (a : Int) (w : World) (s : SlAt w v 3 n ((List.range n).flatMap R)) (g : ∀ i, i < n → ∃ q : Bool × Nat × Int, R i = [.bool q.1, .int .u64 (q.2.1 : Int), .int .i64 q.2.2] ∧ q.2.1 < 18446744073709551616) (a0 : 0 ≤ a) (a1 : a < 18446744073709551616) :
    Calls Try.prog 8 #[v, .int .u64 a] w fun e w' => e = .returned (.bool true) ∧ Below w.heap.size w w' := by
  obtain ⟨S, hS, hB⟩ := SlO_rows s g
  obtain ⟨k, rfl⟩ : ∃ k : Nat, a = (k : Int) := ⟨a.toNat, by omega⟩
  exact StoreMaps_walk v S k w hS hB (by omega)
end Go.Proofs.Ytnpgpbcpgniloaa
