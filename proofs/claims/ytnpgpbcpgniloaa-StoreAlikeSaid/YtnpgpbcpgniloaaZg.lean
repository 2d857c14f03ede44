/-
  Layer 6, the walks: the memory's Key.
-/
import Derived.Test.YtnpgpbcpgniloaaSv
import Derived.Test.YtnpgpbcpgniloaaBz
import Derived.Deep.AppendLies
import Derived.Laws.BytesArg
set_option linter.unusedSimpArgs false
set_option linter.unusedVariables false
namespace GrS
def byteZ (x : Int) (i : Nat) : Int := x / 2 ^ (8 * i) % 256
def keyP (p : Int × Int) : List Int := (List.range 4).map (byteZ p.1) ++ (List.range 8).map (byteZ p.2)
def keyL (L : List (Int × Int)) : List Int := L.flatMap keyP
end GrS
namespace Go.Proofs.Ytnpgpbcpgniloaa
open Go.RowKit Go.Shelf GrS
attribute [local go_sem] Oper.semAt_some

theorem bbytes : (Try.prog.info? 5).map (fun i => (i.zero, i.size, i.bytes)) = some (some (.int .u8 0), 1, 1) := by kernel_rfl


/-- the box at lB holds a slice that owns the bytes bs; nothing else that lay in W has turned -/
def KS (n₀ lB : Nat) (W wr : World) (bs : List Int) : Prop := (∃ v, Boxed wr lB 108 v ∧ wr.ownsRow n₀ 5 1 v bs.length (bs.map (Value.int .u8))) ∧ KeepsOthers W wr ∧ Below n₀ W wr
theorem shr8 (X : Int) (i : Nat) (hi : i < 8) (w : World) : (Op.shift BinOp.shr IntKind.u64 X IntKind.i64 (8 * (i : Int))).run Try.prog w = .ok (.int .u64 (X / 2 ^ (8 * i))) w := by
  match i, hi with
  | 0, _ => simp [go_sem]
  | 1, _ => simp [go_sem]
  | 2, _ => simp [go_sem]
  | 3, _ => simp [go_sem]
  | 4, _ => simp [go_sem]
  | 5, _ => simp [go_sem]
  | 6, _ => simp [go_sem]
  | 7, _ => simp [go_sem]
theorem wrap_u8 (Y : Int) : IntKind.u8.wrap Y = Y % 256 := by simp [IntKind.wrap, IntKind.signed, IntKind.bits]
theorem NP.intro {Q : Exit → Act → World → Prop} {a : Act} {w : World} (h : Q .normal a w) : NP Q .normal a w := h
theorem keyL_snoc (L : List (Int × Int)) (p : Int × Int) : keyL (L ++ [p]) = keyL L ++ keyP p := by unfold keyL; simp
theorem keyL_len (L : List (Int × Int)) : (keyL L).length = 12 * L.length := by
  unfold keyL
  induction L with
  | nil => rfl
  | cons p L ih => rw [List.flatMap_cons, List.length_append, ih, List.length_cons]; simp [keyP]; omega
theorem range_map_snoc (f : Nat → Int) (i : Nat) : (List.range (i + 1)).map f = (List.range i).map f ++ [f i] := by rw [List.range_succ, List.map_append]; rfl
theorem app_one (w : World) (u0 : Value) (T : TypeId) : ∀ j u, ([u0] : List Value)[j]? = some u → (w.alloc (.cells #[u0] T)).cell? ((⟨w.heap.size, 0, none⟩ : Addr).add j) = some u := app_cell w u0 T

set_option maxRecDepth 100000 in
set_option maxHeartbeats 4000000 in
theorem memkey_any (p : Option Addr) (m : Int) (t : Option Tr) (w : World) (h : MAt w p m t) (hm : m ≤ 1000) :
    Calls Try.prog 31 #[.agg #[.pointer p, .int .i64 m]] w fun e w' => e = .returned (.string (strOfNums (keyL (up (toLO t))))) ∧ Below w.heap.size w w' := by
  obtain ⟨i0, hi, hz0, hz1, hz2⟩ := info_parts bbytes
  obtain ⟨q, hq⟩ : ∃ q, q = (toLO t).length := ⟨_, rfl⟩
  obtain rfl : m = (q : Int) := by rw [hq]; exact h.n
  have HM := Lib.hid h
  have HQ := Lib.hid hq
  clear h hq
  have q9 : q ≤ 1000 := by omega
  have mk0 := fun w => run_make (P := Try.prog) w 108 5 i0 _ Try.underlying108 hi hz0 .i64 .i64 0 (12 * (q : Int)) (Int.le_refl _) (by omega) (by rw [hz2]; omega) (by omega)
  simp only [Int.toNat_zero, show (12 * (q : Int)).toNat = 12 * q by omega] at mk0
  obtain ⟨C, hC⟩ : ∃ C, C = madeCells (Value.int IntKind.u8 0).cells (12 * q * i0.size) := ⟨_, rfl⟩
  rw [← hC] at mk0
  have CS := Lib.hid (show C.size = 12 * q * 1 by rw [hC, size_madeCells, hz1])
  clear hC hm
  refine callsIn_wide (n := 6).1 ?_
  refine callsIn_of_wp_marks Try.func31 rfl trivial ?_ rfl
  simp only [Try.ntmps31, List.size_toArray, List.length_cons, List.length_nil, Nat.reduceAdd, Nat.reduceSub, Array.replicate_succ, Array.replicate_zero, List.push_toArray, List.append_toArray, List.nil_append, List.cons_append]
  refine wpIn_wide.2 ?_
  go_upto_region 1 with fail
  refine to_cls ?_
  intro U hU z
  have r_m : ∀ z : Wb U, Row z.at w.heap.size [.pointer p, .int .i64 (q : Int)] 38 := Row.next (Row.new _ [.pointer p, .int .i64 (q : Int)] _) hU
  have KK := Lib.hid (KB.next (KB.alloc (Below.refl _ _) _) hU)
  have m0 : ∀ z : Wb U, z.at.cell? ⟨w.heap.size, 0, none⟩ = some (.pointer p) := fun z => (r_m z).cell 0
  have m1 : ∀ z : Wb U, z.at.cell? ⟨w.heap.size, 1, none⟩ = some (.int .i64 (q : Int)) := fun z => (r_m z).cell 1
  go_wp2_with fail
  refine (maplen_any p (q : Int) _).mono ?_
  rintro e w1 ⟨rfl, g⟩
  obtain ⟨x1, rfl⟩ := Wb.next (x := z) g
  clear g
  go_upto_region 2 with fail
  have RM := Lib.hid (r_m x1)
  have KX := Lib.hid (KK.out x1)
  have MX := Lib.hid (HM.out.below KX.out)
  clear m0 m1 r_m hU KK mk0
  obtain ⟨sA, hsA⟩ : ∃ b, b = x1.at.heap.size := ⟨_, rfl⟩
  refine to_cls ?_
  intro U2 hU2 z2
  have OW := Lib.hid (show z2.at.ownsRow w.heap.size 5 1 (.slice (some ⟨x1.at.heap.size, 0, none⟩) 0 (12 * q)) 0 [] from own_below (own_below (World.ownsRow.alloc (World.ownsRow_made x1.at C (12 * q) KX.out.size (by unfold maxLen; omega) CS.out) _) hU2) z2.bel)
  have r_m : Row z2.at w.heap.size [.pointer p, .int .i64 (q : Int)] 38 := (Row.next ((RM.out.old _).old _) hU2) z2
  have r_l : Row z2.at (x1.at.heap.size + 1) [.slice (some ⟨x1.at.heap.size, 0, none⟩) 0 (12 * q)] 108 := (Row.next (Row.new' _ [.slice (some ⟨x1.at.heap.size, 0, none⟩) 0 (12 * q)] _ _ (by simp)) hU2) z2
  have KZ := Lib.hid (KB.next (KB.alloc (KB.alloc KX.out _) _) hU2 z2)
  have MZ := Lib.hid (show MAt z2.at p (q : Int) t from ((MX.out.below (KB.alloc (KB.alloc (Below.refl _ _) _) _)).below hU2).below z2.bel)
  have SZ := Lib.hid (show w.heap.size ≤ sA + 1 by rw [hsA]; have := KX.out.size; omega)
  rw [← hsA] at r_l OW ⊢
  clear hsA hU2
  have RL := Lib.hid r_l
  have m0 : z2.at.cell? ⟨w.heap.size, 0, none⟩ = some (.pointer p) := r_m.cell 0
  have m1 : z2.at.cell? ⟨w.heap.size, 1, none⟩ = some (.int .i64 (q : Int)) := r_m.cell 1
  clear r_m r_l RM KX MX
  go_wp2_with fail
  refine (eachm_any p (q : Int) _).mono ?_
  rintro e w1 ⟨rfl, rfl⟩
  go_wp2_with fail
  have sA1 := Lib.hid (show w.heap.size ≤ sA + 1 ∧ sA + 1 < z2.at.heap.size from ⟨SZ.out, RL.out.lt⟩)
  have BX := Lib.hid (show Boxed (z2.at.alloc (.cells #[.pointer p, .int .i64 (q : Int)] 36)) (sA + 1) 108 (.slice (some ⟨sA, 0, none⟩) 0 (12 * q)) from RL.out.old _)
  have OX := Lib.hid (World.ownsRow.alloc OW.out (.cells #[.pointer p, .int .i64 (q : Int)] 36))
  have TX := Lib.hid (show PS (z2.at.alloc (.cells #[.pointer p, .int .i64 (q : Int)] 36)) (fun C => C < w.heap.size) p t from PS.upto (KB.alloc KZ.out _) (PS.lt HM.out.at'))
  have BZ := Lib.hid (show Below w.heap.size w (z2.at.alloc (.cells #[.pointer p, .int .i64 (q : Int)] 36)) from KB.alloc KZ.out _)
  have CZ := Lib.hid (show (z2.at.alloc (.cells #[.pointer p, .int .i64 (q : Int)] 36)).cell? ⟨z2.at.heap.size, 0, none⟩ = some (.pointer p) from (Row.new z2.at [.pointer p, .int .i64 (q : Int)] _).cell 0)
  obtain ⟨zS, hzS⟩ : ∃ b, b = z2.at.heap.size := ⟨_, rfl⟩
  have SW := Lib.hid (show (z2.at.alloc (.cells #[.pointer p, .int .i64 (q : Int)] 36)).heap.size = zS + 1 by rw [hzS]; simp)
  rw [← hzS] at CZ sA1 ⊢
  obtain ⟨W0, hW0⟩ : ∃ W0, W0 = z2.at.alloc (.cells #[.pointer p, .int .i64 (q : Int)] 36) := ⟨_, rfl⟩
  rw [← hW0] at BX OX TX BZ CZ SW ⊢
  clear hW0 hzS OW KZ MZ RL SZ m0 m1 HM
  refine wpIn_wide (n := 6).1 ?_
  refine wpIn_rangeFunc_ownG (F := Fence.wide) rfl (by omega) (gf := 68) (lb := #[.pointer (some ⟨zS, 0, none⟩)]) rfl trivial (enters_of Try.func68 (by kernel_rfl) rfl)
    (each_stops Fence.wide rfl (6 - 1) trivial trivial rfl zS w.heap.size p t W0 (by rw [SW.out]; omega) BZ.out.size CZ.out TX.out) belowK_t (belowK_b BZ.out.size) (Below.refl _ _) (fun _ => rfl)
    (fun pre W => (∃ v, Boxed W (sA + 1) 108 v ∧ W.ownsRow w.heap.size 5 1 v (keyL (up pre)).length ((keyL (up pre)).map (Value.int .u8)) ∧ True) ∧ Below w.heap.size w W)
    (fun _ _ _ => False)
    (OwnFrom.and (Own.from (holdsRow_own w.heap.size (sA + 1) 108 5 1 (fun pre : List (Nat × Int) => (keyL (up pre)).length) (fun pre => (keyL (up pre)).map (Value.int .u8)) (fun _ _ => True)) _) (ownFrom_below (Nat.le_refl _) BZ.out.size))
    (fun _ _ _ _ _ hs _ _ => hs)
    ⟨⟨_, BX.out, OX.out, trivial⟩, BZ.out⟩
    (fun x => { tmps := #[.agg #[.pointer p, .int .i64 (q : Int)], .pointer (some ⟨w.heap.size, 0, none⟩), .string { data := #[] }, .pointer (some ⟨sA + 1, 0, none⟩), .int .u64 (x.1 : Int), .int .u64 x.2, undef, undef, .pointer (some ⟨w.heap.size, 0, none⟩), .agg #[.pointer p, .int .i64 (q : Int)], .int .i64 (q : Int), .int .i64 (12 * (q : Int)), .slice (some ⟨sA, 0, none⟩) 0 (12 * q), .pointer (some ⟨w.heap.size, 0, none⟩), .agg #[.pointer p, .int .i64 (q : Int)], .func (.func 68) #[] #[.pointer (some ⟨zS, 0, none⟩)], .int .u64 (x.1 : Int), .int .u64 x.2, undef, undef, undef, undef, undef, undef, undef, undef, undef, undef, undef, undef, undef, undef, undef, undef, undef, undef, undef, undef, undef, undef, undef, undef, undef, undef], defers := [] }) ?assign ?body ?done ?stop
  case assign =>
    intro l x W K hK
    gi_wp2
    exact hK
  case body =>
    rintro l pre x W ⟨⟨v, hv, hrow, _⟩, hB⟩ hlt
    have hlt2 : pre.length < q := by rw [HQ.out]; exact hlt
    have HB := Lib.hid hB
    have K0 := Lib.hid (show KS w.heap.size (sA + 1) W W (keyL (up pre) ++ (List.range 0).map (byteZ x.1)) from ⟨⟨v, hv, by simpa using hrow⟩, KeepsOthers.refl _, Below.refl _ _⟩)
    have LP := Lib.hid (show (keyL (up pre)).length = 12 * pre.length by rw [keyL_len, up_len])
    clear hlt hB hrow hv
    obtain ⟨A, hA⟩ : ∃ A, A = keyL (up pre) := ⟨_, rfl⟩
    rw [← hA] at K0 LP
    have HA := Lib.hid hA
    clear hA
    gi_wp2_with fail
    have LA := Lib.hid (show A.length ≤ 12000 by have := LP.out; omega)
    gi_loopw [18] (fun iv wr => ∃ i : Nat, i ≤ 4 ∧ iv = .int .i64 (i : Int) ∧ KS w.heap.size (sA + 1) W wr (A ++ (List.range i).map (byteZ (x.1 : Int)))) (fun iv _ => 4 - (intOf iv).toNat)
    case atStart => exact ⟨0, by omega, rfl, by simpa using K0.out⟩
    case round =>
      obtain ⟨i, hi4, rfl, hk⟩ := hrel
      obtain ⟨⟨v, hv, hrow⟩, hko, hkb⟩ := hk
      have HV := Lib.hid hv
      have HR := Lib.hid hrow
      have KO := Lib.hid hko
      have KB' := Lib.hid hkb
      have WB := Lib.hid (show w.heap.size ≤ wr.heap.size from Nat.le_trans sA1.out.1 (Nat.le_of_lt hv.lt))
      clear hrow hko hkb
      by_cases ci : i < 4
      · have d4 : decide ((i : Int) < 4) = true := by simp; omega
        have i0' : (0 : Int) ≤ (i : Int) := by omega
        have i1 : (i : Int) ≤ 3 := by omega
        have c1 := hv.cell
        have f1 := hv.frozen
        have W8 : IntKind.i64.wrap (8 * (i : Int)) = 8 * (i : Int) := by rw [IntKind.wrap_i64]; omega
        have SH := fun w => shr8 (x.1 : Int) i (by omega) w
        have e8 : (8 * (i : Int)).toNat = 8 * i := by omega
        obtain ⟨bz, hbz⟩ : ∃ b, b = byteZ (x.1 : Int) i := ⟨_, rfl⟩
        have BZ := Lib.hid (show IntKind.u8.wrap ((x.1 : Int) / 2 ^ (8 * (i : Int)).toNat) = bz by rw [hbz, e8, wrap_u8]; rfl)
        have SN := Lib.hid (show A ++ (List.range (i + 1)).map (byteZ (x.1 : Int)) = (A ++ (List.range i).map (byteZ (x.1 : Int))) ++ [bz] by rw [range_map_snoc, ← List.append_assoc, hbz])
        have LL := Lib.hid (show (A ++ (List.range i).map (byteZ (x.1 : Int))).length ≤ 20000 by rw [List.length_append, List.length_map, List.length_range]; have := LA.out; omega)
        obtain ⟨m, hm⟩ : ∃ m, m = (A ++ (List.range i).map (byteZ (x.1 : Int))).length := ⟨_, rfl⟩
        rw [← hm] at LL HR
        have LM := Lib.hid hm
        have cA1 := fun o => (HV.out.alloc o).cell
        have fA1 := fun o => (HV.out.alloc o).frozen
        have HRA := Lib.hid (show (wr.alloc (.cells #[.int .u8 bz] 5)).drew.ownsRow w.heap.size 5 1 v _ _ from HR.out.alloc _)
        have NW := Lib.hid (show ∀ (j : Nat) (u : Value), ([.int .u8 bz] : List Value)[j]? = some u → (wr.alloc (.cells #[.int .u8 bz] 5)).drew.cell? ((⟨wr.heap.size, 0, none⟩ : Addr).add j) = some u from app_one wr (.int .u8 bz) 5)
        have N1 := Lib.hid (show ∀ u ∈ [Value.int .u8 bz], u.oneCell' = true by simp [Value.oneCell'])
        have S5 := Lib.hid (show w.heap.size ≤ (wr.alloc (.cells #[.int .u8 bz] 5)).drew.heap.size by have := WB.out; show _ ≤ (wr.alloc _).heap.size; simp only [World.size_alloc]; omega)
        clear hv hbz e8 hm
        gi_wp2_with fail
        refine wpIn_region_tame (by kernel_rfl) ?_ ?_
        · intro o ho
          simp only [List.mem_cons, List.not_mem_nil, or_false] at ho
          rcases ho with rfl | rfl | rfl | rfl | rfl | rfl | rfl | rfl | rfl
          all_goals first
            | exact Tame.mv _ rfl
            | exact Tame.append _ _ _ rfl
            | exact Tame.val _ (fun ρ => rfl) (fun c e => by cases e) (fun c e => by cases e)
            | exact Tame.unit _ (fun ρ => rfl) (fun c e => by cases e) (fun c e => by cases e)
        change wpAny _ _ _ _ 9 (Array.replicate 9 false) _ _
        refine wpAny_take (i := 1) (v := ?_) rfl (by kernel_rfl) (by kernel_rfl) (by kernel_rfl) (fun _ _ _ h => h) (Or.inl ⟨by rfl, ?_⟩) ?_
        rotate_left 1
        · intro w
          go_simp
          try (with_reducible rfl)
        refine wpAny_take (i := 2) (v := ?_) rfl (by kernel_rfl) (by kernel_rfl) (by kernel_rfl) (fun _ _ _ h => h) (Or.inl ⟨by rfl, ?_⟩) ?_
        rotate_left 1
        · intro w
          go_simp
          try (with_reducible rfl)
        refine wpAny_take (i := 3) (v := ?_) rfl (by kernel_rfl) (by kernel_rfl) (by kernel_rfl) (fun _ _ _ h => h) (Or.inl ⟨by rfl, ?_⟩) ?_
        rotate_left 1
        · intro w
          go_simp
          try (with_reducible rfl)
        refine wpAny_take (i := 4) (v := ?_) rfl (by kernel_rfl) (by kernel_rfl) (by kernel_rfl) (fun _ _ _ h => h) (Or.inl ⟨by rfl, ?_⟩) ?_
        rotate_left 1
        · intro w
          go_simp
          try (with_reducible rfl)
        refine wpAny_take (i := 5) (v := ?_) rfl (by kernel_rfl) (by kernel_rfl) (by kernel_rfl) (fun _ _ _ h => h) (Or.inl ⟨by rfl, ?_⟩) ?_
        rotate_left 1
        · intro w
          go_simp
          try (with_reducible rfl)
        rw [show IntKind.u8.wrap ((x.1 : Int) / 2 ^ (8 * (i : Int)).toNat) = bz from BZ.out]
        refine wpAny_ready (rs := [0, 6]) (by kernel_rfl) (by simp) ?_
        refine AllReady.cons rfl (fun K hK => ?_) (AllReady.cons rfl (fun K hK => ?_) AllReady.nil)
        · go_simp
          refine hK _ _ ?_
          clear hK K
          refine wpAny_ready (rs := [6]) (by kernel_rfl) (by simp) ?_
          refine AllReady.cons rfl (fun K hK => ?_) AllReady.nil
          go_simp
          refine hK _ _ ?_
          clear hK K
          refine wpAny_ready (rs := [7]) (by kernel_rfl) (by simp) ?_
          refine AllReady.cons rfl (fun K hK => ?_) AllReady.nil
          refine step_append_lies _ (by rfl) (.tmp 21) (.tmp 27) 108 (by rfl) w.heap.size 5 i0 (.int .u8 0) 1 1 Try.underlying108 hi hz0 hz1 hz2 (by rfl) (by decide) v _ _ (by rfl) HRA.out ⟨wr.heap.size, 0, none⟩ 1 1 [.int .u8 bz] (by rfl) (by rfl) NW.out N1.out (by decide) (by have := LL.out; unfold maxLen; omega) (by have := LL.out; omega) S5.out _ rfl ?_
          intro g cap w5 h2 hg2 _ _
          refine hK _ _ ?_
          clear hK K
          obtain ⟨hv1, hv2, hr2, hk2, hb2⟩ := HV.out.appended (by decide) HR.out WB.out sA1.out.1 h2 (show (wr.alloc (.cells #[.int .u8 bz] 5)).grownBy w5 _ from ⟨hg2.1, hg2.2, hg2.3, hg2.4, hg2.5⟩)
          have hc1 := hv1.cell
          have hf1 := hv1.frozen
          have HV2 := Lib.hid hv2
          have HR2 := Lib.hid hr2
          have HK2 := Lib.hid hk2
          have HB3 := Lib.hid hb2
          clear h2 hg2 hv1 hv2 hr2 hk2 hb2
          refine wpAny_ready (rs := [8]) (by kernel_rfl) (by simp) ?_
          refine AllReady.cons rfl (fun K hK => ?_) AllReady.nil
          go_simp
          refine hK _ _ ?_
          clear hK K
          refine wpAny_done (by kernel_rfl) ?_ _
          refine NP.intro ?_
          gi_wp2
          go_roundw
          case rel => exact ⟨i + 1, by omega, by go_num, ⟨⟨_, HV2.out, by rw [SN.out, List.map_append, List.length_append, ← LM.out]; exact HR2.out⟩, KeepsOthers.trans KO.out HK2.out, KB'.out.trans HB3.out⟩⟩
          case measure => simp [intOf]; omega
        · go_simp
          refine hK _ _ ?_
          clear hK K
          refine wpAny_ready (rs := [0]) (by kernel_rfl) (by simp) ?_
          refine AllReady.cons rfl (fun K hK => ?_) AllReady.nil
          go_simp
          refine hK _ _ ?_
          clear hK K
          refine wpAny_ready (rs := [7]) (by kernel_rfl) (by simp) ?_
          refine AllReady.cons rfl (fun K hK => ?_) AllReady.nil
          refine step_append_lies _ (by rfl) (.tmp 21) (.tmp 27) 108 (by rfl) w.heap.size 5 i0 (.int .u8 0) 1 1 Try.underlying108 hi hz0 hz1 hz2 (by rfl) (by decide) v _ _ (by rfl) HRA.out ⟨wr.heap.size, 0, none⟩ 1 1 [.int .u8 bz] (by rfl) (by rfl) NW.out N1.out (by decide) (by have := LL.out; unfold maxLen; omega) (by have := LL.out; omega) S5.out _ rfl ?_
          intro g cap w5 h2 hg2 _ _
          refine hK _ _ ?_
          clear hK K
          obtain ⟨hv1, hv2, hr2, hk2, hb2⟩ := HV.out.appended (by decide) HR.out WB.out sA1.out.1 h2 (show (wr.alloc (.cells #[.int .u8 bz] 5)).grownBy w5 _ from ⟨hg2.1, hg2.2, hg2.3, hg2.4, hg2.5⟩)
          have hc1 := hv1.cell
          have hf1 := hv1.frozen
          have HV2 := Lib.hid hv2
          have HR2 := Lib.hid hr2
          have HK2 := Lib.hid hk2
          have HB3 := Lib.hid hb2
          clear h2 hg2 hv1 hv2 hr2 hk2 hb2
          refine wpAny_ready (rs := [8]) (by kernel_rfl) (by simp) ?_
          refine AllReady.cons rfl (fun K hK => ?_) AllReady.nil
          go_simp
          refine hK _ _ ?_
          clear hK K
          refine wpAny_done (by kernel_rfl) ?_ _
          refine NP.intro ?_
          gi_wp2
          go_roundw
          case rel => exact ⟨i + 1, by omega, by go_num, ⟨⟨_, HV2.out, by rw [SN.out, List.map_append, List.length_append, ← LM.out]; exact HR2.out⟩, KeepsOthers.trans KO.out HK2.out, KB'.out.trans HB3.out⟩⟩
          case measure => simp [intOf]; omega
      · have EI18 := Lib.hid (show i = 4 by omega)
        have d4 : decide ((i : Int) < 4) = false := by simp; omega
        have c1 := hv.cell
        clear ci hi4 hv
        obtain ⟨A2, hA2⟩ : ∃ A2, A2 = A ++ (List.range i).map (byteZ (x.1 : Int)) := ⟨_, rfl⟩
        have K0 := Lib.hid (show KS w.heap.size (sA + 1) W wr (A2 ++ (List.range 0).map (byteZ x.2)) by rw [hA2]; exact ⟨⟨v, HV.out, by simpa using HR.out⟩, KO.out, KB'.out⟩)
        have LA := Lib.hid (show A2.length ≤ 12004 by rw [hA2, List.length_append, List.length_map, List.length_range]; have := LA.out; have := EI18.out; omega)
        have HA2 := Lib.hid hA2
        clear hA2 HV HR KO KB' WB c1
        gi_wp2_with fail
        gi_loopw [30] (fun iv wr => ∃ i : Nat, i ≤ 8 ∧ iv = .int .i64 (i : Int) ∧ KS w.heap.size (sA + 1) W wr (A2 ++ (List.range i).map (byteZ x.2))) (fun iv _ => 8 - (intOf iv).toNat)
        case atStart => exact ⟨0, by omega, rfl, by simpa using K0.out⟩
        case round =>
          obtain ⟨i, hi4, rfl, hk⟩ := hrel
          obtain ⟨⟨v, hv, hrow⟩, hko, hkb⟩ := hk
          have HV := Lib.hid hv
          have HR := Lib.hid hrow
          have KO := Lib.hid hko
          have KB' := Lib.hid hkb
          have WB := Lib.hid (show w.heap.size ≤ wr.heap.size from Nat.le_trans sA1.out.1 (Nat.le_of_lt hv.lt))
          clear hrow hko hkb
          by_cases ci : i < 8
          · have d4 : decide ((i : Int) < 8) = true := by simp; omega
            have i0' : (0 : Int) ≤ (i : Int) := by omega
            have i1 : (i : Int) ≤ 7 := by omega
            have c1 := hv.cell
            have f1 := hv.frozen
            have W8 : IntKind.i64.wrap (8 * (i : Int)) = 8 * (i : Int) := by rw [IntKind.wrap_i64]; omega
            have SH := fun w => shr8 x.2 i (by omega) w
            have e8 : (8 * (i : Int)).toNat = 8 * i := by omega
            obtain ⟨bz, hbz⟩ : ∃ b, b = byteZ x.2 i := ⟨_, rfl⟩
            have BZ := Lib.hid (show IntKind.u8.wrap (x.2 / 2 ^ (8 * (i : Int)).toNat) = bz by rw [hbz, e8, wrap_u8]; rfl)
            have SN := Lib.hid (show A2 ++ (List.range (i + 1)).map (byteZ x.2) = (A2 ++ (List.range i).map (byteZ x.2)) ++ [bz] by rw [range_map_snoc, ← List.append_assoc, hbz])
            have LL := Lib.hid (show (A2 ++ (List.range i).map (byteZ x.2)).length ≤ 20000 by rw [List.length_append, List.length_map, List.length_range]; have := LA.out; omega)
            obtain ⟨m, hm⟩ : ∃ m, m = (A2 ++ (List.range i).map (byteZ x.2)).length := ⟨_, rfl⟩
            rw [← hm] at LL HR
            have LM := Lib.hid hm
            have cA1 := fun o => (HV.out.alloc o).cell
            have fA1 := fun o => (HV.out.alloc o).frozen
            have HRA := Lib.hid (show (wr.alloc (.cells #[.int .u8 bz] 5)).drew.ownsRow w.heap.size 5 1 v _ _ from HR.out.alloc _)
            have NW := Lib.hid (show ∀ (j : Nat) (u : Value), ([.int .u8 bz] : List Value)[j]? = some u → (wr.alloc (.cells #[.int .u8 bz] 5)).drew.cell? ((⟨wr.heap.size, 0, none⟩ : Addr).add j) = some u from app_one wr (.int .u8 bz) 5)
            have N1 := Lib.hid (show ∀ u ∈ [Value.int .u8 bz], u.oneCell' = true by simp [Value.oneCell'])
            have S5 := Lib.hid (show w.heap.size ≤ (wr.alloc (.cells #[.int .u8 bz] 5)).drew.heap.size by have := WB.out; show _ ≤ (wr.alloc _).heap.size; simp only [World.size_alloc]; omega)
            clear hv hbz e8 hm
            gi_wp2_with fail
            refine wpIn_region_tame (by kernel_rfl) ?_ ?_
            · intro o ho
              simp only [List.mem_cons, List.not_mem_nil, or_false] at ho
              rcases ho with rfl | rfl | rfl | rfl | rfl | rfl | rfl | rfl | rfl
              all_goals first
                | exact Tame.mv _ rfl
                | exact Tame.append _ _ _ rfl
                | exact Tame.val _ (fun ρ => rfl) (fun c e => by cases e) (fun c e => by cases e)
                | exact Tame.unit _ (fun ρ => rfl) (fun c e => by cases e) (fun c e => by cases e)
            change wpAny _ _ _ _ 9 (Array.replicate 9 false) _ _
            refine wpAny_take (i := 1) (v := ?_) rfl (by kernel_rfl) (by kernel_rfl) (by kernel_rfl) (fun _ _ _ h => h) (Or.inl ⟨by rfl, ?_⟩) ?_
            rotate_left 1
            · intro w
              go_simp
              try (with_reducible rfl)
            refine wpAny_take (i := 2) (v := ?_) rfl (by kernel_rfl) (by kernel_rfl) (by kernel_rfl) (fun _ _ _ h => h) (Or.inl ⟨by rfl, ?_⟩) ?_
            rotate_left 1
            · intro w
              go_simp
              try (with_reducible rfl)
            refine wpAny_take (i := 3) (v := ?_) rfl (by kernel_rfl) (by kernel_rfl) (by kernel_rfl) (fun _ _ _ h => h) (Or.inl ⟨by rfl, ?_⟩) ?_
            rotate_left 1
            · intro w
              go_simp
              try (with_reducible rfl)
            refine wpAny_take (i := 4) (v := ?_) rfl (by kernel_rfl) (by kernel_rfl) (by kernel_rfl) (fun _ _ _ h => h) (Or.inl ⟨by rfl, ?_⟩) ?_
            rotate_left 1
            · intro w
              go_simp
              try (with_reducible rfl)
            refine wpAny_take (i := 5) (v := ?_) rfl (by kernel_rfl) (by kernel_rfl) (by kernel_rfl) (fun _ _ _ h => h) (Or.inl ⟨by rfl, ?_⟩) ?_
            rotate_left 1
            · intro w
              go_simp
              try (with_reducible rfl)
            rw [show IntKind.u8.wrap (x.2 / 2 ^ (8 * (i : Int)).toNat) = bz from BZ.out]
            refine wpAny_ready (rs := [0, 6]) (by kernel_rfl) (by simp) ?_
            refine AllReady.cons rfl (fun K hK => ?_) (AllReady.cons rfl (fun K hK => ?_) AllReady.nil)
            · go_simp
              refine hK _ _ ?_
              clear hK K
              refine wpAny_ready (rs := [6]) (by kernel_rfl) (by simp) ?_
              refine AllReady.cons rfl (fun K hK => ?_) AllReady.nil
              go_simp
              refine hK _ _ ?_
              clear hK K
              refine wpAny_ready (rs := [7]) (by kernel_rfl) (by simp) ?_
              refine AllReady.cons rfl (fun K hK => ?_) AllReady.nil
              refine step_append_lies _ (by rfl) (.tmp 33) (.tmp 39) 108 (by rfl) w.heap.size 5 i0 (.int .u8 0) 1 1 Try.underlying108 hi hz0 hz1 hz2 (by rfl) (by decide) v _ _ (by rfl) HRA.out ⟨wr.heap.size, 0, none⟩ 1 1 [.int .u8 bz] (by rfl) (by rfl) NW.out N1.out (by decide) (by have := LL.out; unfold maxLen; omega) (by have := LL.out; omega) S5.out _ rfl ?_
              intro g cap w5 h2 hg2 _ _
              refine hK _ _ ?_
              clear hK K
              obtain ⟨hv1, hv2, hr2, hk2, hb2⟩ := HV.out.appended (by decide) HR.out WB.out sA1.out.1 h2 (show (wr.alloc (.cells #[.int .u8 bz] 5)).grownBy w5 _ from ⟨hg2.1, hg2.2, hg2.3, hg2.4, hg2.5⟩)
              have hc1 := hv1.cell
              have hf1 := hv1.frozen
              have HV2 := Lib.hid hv2
              have HR2 := Lib.hid hr2
              have HK2 := Lib.hid hk2
              have HB3 := Lib.hid hb2
              clear h2 hg2 hv1 hv2 hr2 hk2 hb2
              refine wpAny_ready (rs := [8]) (by kernel_rfl) (by simp) ?_
              refine AllReady.cons rfl (fun K hK => ?_) AllReady.nil
              go_simp
              refine hK _ _ ?_
              clear hK K
              refine wpAny_done (by kernel_rfl) ?_ _
              refine NP.intro ?_
              gi_wp2
              go_roundw
              case rel => exact ⟨i + 1, by omega, by go_num, ⟨⟨_, HV2.out, by rw [SN.out, List.map_append, List.length_append, ← LM.out]; exact HR2.out⟩, KeepsOthers.trans KO.out HK2.out, KB'.out.trans HB3.out⟩⟩
              case measure => simp [intOf]; omega
            · go_simp
              refine hK _ _ ?_
              clear hK K
              refine wpAny_ready (rs := [0]) (by kernel_rfl) (by simp) ?_
              refine AllReady.cons rfl (fun K hK => ?_) AllReady.nil
              go_simp
              refine hK _ _ ?_
              clear hK K
              refine wpAny_ready (rs := [7]) (by kernel_rfl) (by simp) ?_
              refine AllReady.cons rfl (fun K hK => ?_) AllReady.nil
              refine step_append_lies _ (by rfl) (.tmp 33) (.tmp 39) 108 (by rfl) w.heap.size 5 i0 (.int .u8 0) 1 1 Try.underlying108 hi hz0 hz1 hz2 (by rfl) (by decide) v _ _ (by rfl) HRA.out ⟨wr.heap.size, 0, none⟩ 1 1 [.int .u8 bz] (by rfl) (by rfl) NW.out N1.out (by decide) (by have := LL.out; unfold maxLen; omega) (by have := LL.out; omega) S5.out _ rfl ?_
              intro g cap w5 h2 hg2 _ _
              refine hK _ _ ?_
              clear hK K
              obtain ⟨hv1, hv2, hr2, hk2, hb2⟩ := HV.out.appended (by decide) HR.out WB.out sA1.out.1 h2 (show (wr.alloc (.cells #[.int .u8 bz] 5)).grownBy w5 _ from ⟨hg2.1, hg2.2, hg2.3, hg2.4, hg2.5⟩)
              have hc1 := hv1.cell
              have hf1 := hv1.frozen
              have HV2 := Lib.hid hv2
              have HR2 := Lib.hid hr2
              have HK2 := Lib.hid hk2
              have HB3 := Lib.hid hb2
              clear h2 hg2 hv1 hv2 hr2 hk2 hb2
              refine wpAny_ready (rs := [8]) (by kernel_rfl) (by simp) ?_
              refine AllReady.cons rfl (fun K hK => ?_) AllReady.nil
              go_simp
              refine hK _ _ ?_
              clear hK K
              refine wpAny_done (by kernel_rfl) ?_ _
              refine NP.intro ?_
              gi_wp2
              go_roundw
              case rel => exact ⟨i + 1, by omega, by go_num, ⟨⟨_, HV2.out, by rw [SN.out, List.map_append, List.length_append, ← LM.out]; exact HR2.out⟩, KeepsOthers.trans KO.out HK2.out, KB'.out.trans HB3.out⟩⟩
              case measure => simp [intOf]; omega
          · have EI30 := Lib.hid (show i = 8 by omega)
            have d4 : decide ((i : Int) < 8) = false := by simp; omega
            have c1 := hv.cell
            clear ci hi4 hv
            have LK := Lib.hid (show keyL (up (pre ++ [x])) = A2 ++ (List.range i).map (byteZ x.2) by rw [up_snoc, keyL_snoc, ← HA.out, HA2.out, EI18.out, EI30.out, List.append_assoc]; rfl)
            gi_wp2
            exact ⟨KO.out.from _, KB'.out, ⟨v, HV.out, by rw [LK.out]; exact HR.out, trivial⟩, HB.out.trans KB'.out⟩
  case done =>
    rintro D ys W hD rfl ⟨⟨v, hv, hrow, _⟩, hB⟩ hK
    have hc := hv.cell
    obtain ⟨KL, hKL⟩ : ∃ KL, KL = keyL (up (toLO t)) := ⟨_, rfl⟩
    rw [← hKL] at hrow
    rcases own_open hrow with ⟨rfl, h0⟩ | ⟨g, cap, rfl, _, _, hx⟩
    · have K0 : KL = [] := List.eq_nil_of_length_eq_zero h0
      have cv := run_convert_bytes_nil (P := Try.prog) W 108 5 Try.underlying108 Try.underlying5 0 0 9 Try.underlying9
      go_wp2
      refine ⟨by simp, .inl ⟨_, _, rfl, run_takeDeferred hK, ?_⟩⟩
      exact ⟨_, results_tmp rfl _ _ _, by rw [← hKL, K0]; rfl, hB.trans (belowK_b (w := w) (Nat.le_refl _) W D _ _ (Nat.le_trans BZ.out.size hD) hK rfl rfl)⟩
    · have cv := run_convert_bytes_arg (P := Try.prog) W 108 5 Try.underlying108 Try.underlying5 g 0 KL.length cap KL rfl (fun i hi => by
        rw [Nat.zero_add]
        exact hx i _ (by rw [List.getElem?_map, List.getElem?_eq_getElem hi, List.getD_eq_getElem?_getD, List.getElem?_eq_getElem hi]; rfl)) 9 Try.underlying9
      obtain ⟨m, hm⟩ : ∃ m, m = KL.length := ⟨_, rfl⟩
      rw [← hm] at hc cv
      have HKL := Lib.hid hKL
      clear hx hrow hv hm hKL
      go_wp2
      refine ⟨by simp, .inl ⟨_, _, rfl, run_takeDeferred hK, ?_⟩⟩
      exact ⟨_, results_tmp rfl _ _ _, by rw [← HKL.out]; rfl, hB.trans (belowK_b (w := w) (Nat.le_refl _) W D _ _ (Nat.le_trans BZ.out.size hD) hK rfl rfl)⟩
  case stop =>
    rintro D c pre W _ _ h _
    exact h.elim
end Go.Proofs.Ytnpgpbcpgniloaa
