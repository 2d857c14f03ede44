/-
  Layer 11, the walks: the page's wrap, Print.
  Layer 11, the walks: the page's Print.
-/
import Derived.Test.YtgpngjgilcbigaaDoorOt
import Derived.Test.YtgpngjgilcbigaaDoorO2
import Derived.Deep.RegionHeld3
set_option linter.unusedSimpArgs false
set_option linter.unusedVariables false
namespace Go.Proofs.YtgpngjgilcbigaaDoor
open Go.RowKit GrP GrL GrC
open GrA (itoa_len64)

-- the page's wrap, over what Print does of the condition itself
set_option maxRecDepth 100000 in
set_option maxHeartbeats 6400000 in
theorem rwrap_of (c : Cnd) (p : Option Addr) (n q : Nat) (ks : List Int) (a : Addr) (m mq : Nat) (t : Tx) (w : World) (hl : LAt w c.args p 0) (hm : m = ks.length) (hm2 : m ≤ 2) (hk : ∀ j (h : j < ks.length), w.cell? (a.add j) = some (.int .i64 ks[j])) (TL : t.length ≤ 300000000) (PC0 : ∀ U, Below w.heap.size w U → Calls Tryd.prog 12 #[.agg #[.int .i64 c.k, .int .i64 c.co, .int .i64 c.r, .int .u64 c.ad, .int .u64 c.va, .slice p n q]] U fun e w' => e = .returned (.string (strL t)) ∧ Below U.heap.size U w') :
    Calls Tryd.prog 34 #[.agg #[.int .i64 c.k, .int .i64 c.co, .int .i64 c.r, .int .u64 c.ad, .int .u64 c.va, .slice p n q], .slice (some a) m mq] w fun e w' => e = .returned (.string (strL (if c.k ∈ ks then 40 :: (t ++ [41]) else t))) ∧ Below w.heap.size w w' := by
  have PC := Lib.hid PC0
  have SB := Lib.hid (show (⟨#[40]⟩ ++ strL t ++ ⟨#[41]⟩ : ByteArray) = strL (40 :: (t ++ [41])) by rw [show (⟨#[40]⟩ : ByteArray) = strL [40] from rfl, show (⟨#[41]⟩ : ByteArray) = strL [41] from rfl, strL_app, strL_app]; rfl)
  have SZ : (strL t).size = t.length := strL_size t
  have s1 : ¬ 9223372036854775807 < 1 + (strL t).size := by omega
  have s2 : ¬ 9223372036854775807 < 1 + (strL t).size + 1 := by omega
  have HM := Lib.hid hm
  have HK := Lib.hid hk
  have m0 : (0 : Int) ≤ (m : Int) := by omega
  have m9 : (m : Int) ≤ 2 := by omega
  obtain ⟨kk, hkk⟩ : ∃ k, k = c.k := ⟨_, rfl⟩
  obtain ⟨co, hcc⟩ : ∃ k, k = c.co := ⟨_, rfl⟩
  obtain ⟨rr, hrr⟩ : ∃ k, k = c.r := ⟨_, rfl⟩
  obtain ⟨aa, haa⟩ : ∃ k, k = c.ad := ⟨_, rfl⟩
  obtain ⟨vv, hvv⟩ : ∃ k, k = c.va := ⟨_, rfl⟩
  obtain ⟨ts, hts⟩ : ∃ ts, ts = c.args := ⟨_, rfl⟩
  rw [← hkk, ← hcc, ← hrr, ← haa, ← hvv] at PC
  rw [← hts] at hl
  rw [← hkk, ← hcc, ← hrr, ← haa, ← hvv]
  clear hts hkk hcc hrr haa hvv SZ TL hm hm2 hk PC0
  go_enter Tryd.func34, Tryd.ntmps34
  go_upto_region 1 with fail
  refine to_cls ?_
  intro U0 hU0 y0
  have r_c : ∀ z : Wb U0, Row z.at w.heap.size [.int .i64 kk, .int .i64 co, .int .i64 rr, .int .u64 aa, .int .u64 vv, .slice p n q] 25 := Row.next (Row.new _ [.int .i64 kk, .int .i64 co, .int .i64 rr, .int .u64 aa, .int .u64 vv, .slice p n q] _) hU0
  have KK := Lib.hid (KB.next (KB.alloc (Below.refl w.heap.size w) _) hU0)
  clear hU0
  have c_0 := fun z : Wb U0 => (r_c z).cell 0
  have c_1 := fun z : Wb U0 => (r_c z).cell 1
  have c_2 := fun z : Wb U0 => (r_c z).cell 2
  have c_3 := fun z : Wb U0 => (r_c z).cell 3
  have c_4 := fun z : Wb U0 => (r_c z).cell 4
  have c_5 := fun z : Wb U0 => (r_c z).cell 5
  simp only [List.getElem?_cons_zero, List.getElem?_cons_succ] at c_0 c_1 c_2 c_3 c_4 c_5
  have LU := Lib.hid (fun z : Wb U0 => hl.below (KK.out z))
  clear r_c
  obtain ⟨pC, hpC⟩ : ∃ b, b = w.heap.size := ⟨_, rfl⟩
  rw [← hpC] at c_0 c_1 c_2 c_3 c_4 c_5
  simp only [← hpC]
  clear hpC hl
  clear LU
  go_wp2_with fail
  go_loopw [5] (fun iv wr => ∃ (j : Nat) (z : Wb U0), j ≤ m ∧ iv = .int .i64 (j : Int) ∧ (∀ i (h : i < ks.length), i < j → ks[i] ≠ kk) ∧ wr = z.at) (fun iv _ => m - (intOf iv).toNat)
  case atStart => exact ⟨0, y0, by omega, rfl, fun i h h2 => by omega, rfl⟩
  case round =>
    obtain ⟨j, z, hj, rfl, hall, rfl⟩ := hrel
    have HA := Lib.hid hall
    clear hall
    have j0 : (0 : Int) ≤ (j : Int) := by omega
    have KZ := Lib.hid (KK.out z)
    have c_0 := z.lift c_0
    have c_1 := z.lift c_1
    have c_2 := z.lift c_2
    have c_3 := z.lift c_3
    have c_4 := z.lift c_4
    have c_5 := z.lift c_5
    by_cases cj : j < m
    · have l1 : j < ks.length := by have := HM.out; omega
      have IL := Lib.hid (show j + 1 ≤ m by omega)
      have g1 : (j : Int) < (m : Int) := by omega
      have e0 : ∀ y : Wb z.at, y.at.cell? (a.add j) = some (.int .i64 (ks[j]'l1)) := fun y => keep_below (KZ.out.trans (y.bel.mono KZ.out.size)) _ _ (HK.out j l1)
      obtain ⟨kj, hkj⟩ : ∃ x, x = ks[j]'l1 := ⟨_, rfl⟩
      rw [← hkj] at e0
      have KJ := Lib.hid hkj
      clear hkj cj hj
      by_cases ek : kk = kj
      · subst ek
        have IN := Lib.hid (show kk ∈ ks by rw [KJ.out]; exact List.getElem_mem l1)
        clear KJ l1
        go_upto_region 4 with fail
        refine wp_region_wb (by kernel_rfl) (by kernel_rfl) ?_
        repeat (go_big_quiet_step (fail))
        refine wpQuiet_nil ?_
        rintro _ ⟨x7, rfl⟩
        have KZ := Lib.hid (KZ.out.trans (x7.bel.mono KZ.out.size))
        have c_0 := c_0 x7
        have c_1 := c_1 x7
        have c_2 := c_2 x7
        have c_3 := c_3 x7
        have c_4 := c_4 x7
        have c_5 := c_5 x7
        go_wp2_with (go_at_call 12; refine (PC.out _ KZ.out).mono ?_; rintro e w9 ⟨rfl, g⟩; have G9 := Lib.hid g; clear g)
        go_ret
        exact ⟨by first | (rw [← SB.out]; rfl) | (rw [if_pos IN.out, ← SB.out]; rfl), KZ.out.trans (G9.out.mono KZ.out.size)⟩
      · have gk : (kk == kj) = false := by simpa using ek
        have NX := Lib.hid (show ∀ i (h : i < ks.length), i < j + 1 → ks[i] ≠ kk from fun i h h2 => by
          by_cases e : i = j
          · subst e
            intro e2
            exact ek (e2.symm.trans KJ.out.symm)
          · exact HA.out i h (by omega))
        clear KJ l1 ek
        go_upto_region 4 with fail
        refine wp_region_wb (by kernel_rfl) (by kernel_rfl) ?_
        repeat (go_big_quiet_step (fail))
        refine wpQuiet_nil ?_
        rintro _ ⟨x7, rfl⟩
        go_wp2
        go_roundw
        case rel => exact ⟨j + 1, ⟨x7.at, z.bel.trans (x7.bel.mono z.bel.size)⟩, IL.out, by go_num, NX.out, rfl⟩
        case measure => have := IL.out; simp [intOf] <;> omega
    · have g1 : ¬ (j : Int) < (m : Int) := by omega
      have NI := Lib.hid (show ¬ kk ∈ ks from fun h => by
        obtain ⟨i, hi, e⟩ := List.getElem_of_mem h
        exact HA.out i hi (by have := HM.out; omega) e)
      have c_0 := c_0 ⟨z.at, Below.refl _ _⟩
      have c_1 := c_1 ⟨z.at, Below.refl _ _⟩
      have c_2 := c_2 ⟨z.at, Below.refl _ _⟩
      have c_3 := c_3 ⟨z.at, Below.refl _ _⟩
      have c_4 := c_4 ⟨z.at, Below.refl _ _⟩
      have c_5 := c_5 ⟨z.at, Below.refl _ _⟩
      clear cj hj
      go_wp2_with (go_at_call 12; refine (PC.out _ KZ.out).mono ?_; rintro e w9 ⟨rfl, g⟩; have G9 := Lib.hid g; clear g)
      go_ret
      exact ⟨by first | rfl | (rw [if_neg NI.out]; rfl), KZ.out.trans (G9.out.mono KZ.out.size)⟩
end Go.Proofs.YtgpngjgilcbigaaDoor

namespace GrC
theorem wit_mem {k : Int} {i : Nat} {ak : Int} {ks : List Int} {t : GrL.Tx} (h : (ak ∈ ks) ↔ wrapB k i ak = true) : (if ak ∈ ks then 40 :: (t ++ [41]) else t) = wit k i ak t := by
  unfold wit
  by_cases c : ak ∈ ks
  · rw [if_pos c, if_pos (h.1 c)]
  · rw [if_neg c, if_neg (fun e => c (h.2 e))]
end GrC
namespace Go.Proofs.YtgpngjgilcbigaaDoor
open Go.RowKit GrP GrL GrC
open GrA (itoa_len64)
theorem Bt {B U V : World} (h : Below B.heap.size B U) (g : Below U.heap.size U V) : Below B.heap.size B V := h.trans (g.mono h.size)
theorem Calls.bt {P : Program} {f : FuncId} {args : Array Value} {B U : World} {v : Value} (k : Below B.heap.size B U) (h : Calls P f args U fun e w' => e = .returned v ∧ Below U.heap.size U w') : Calls P f args U fun e w' => e = .returned v ∧ Below U.heap.size U w' ∧ Below B.heap.size B w' := h.mono fun _ _ h => ⟨h.1, h.2, Bt k h.2⟩
theorem rhexI_any (v : Int) (w : World) (h0 : 0 ≤ v) (h1 : v < 18446744073709551616) : Calls Tryd.prog 31 #[.int .u64 v] w fun e w' => e = .returned (.string (strL (hexT v))) ∧ Below w.heap.size w w' := by
  have := rhex_any v.toNat w (by omega)
  rw [Int.toNat_of_nonneg h0] at this
  exact this

set_option maxRecDepth 100000 in
set_option maxHeartbeats 6400000 in
theorem rprint_reg (c : Cnd) (p : Option Addr) (n q : Nat) (w : World) (hb : c.cnt ≤ 1000000) (ho : c.ok) (hn : n = c.args.length) (hl : LAt w c.args p 0) (h : c.k = 1) : Calls Tryd.prog 12 #[.agg #[.int .i64 c.k, .int .i64 c.co, .int .i64 c.r, .int .u64 c.ad, .int .u64 c.va, .slice p n q]] w fun e w' => e = .returned (.string (strL c.pr)) ∧ Below w.heap.size w w' := by
  obtain ⟨o1, o2, o3, o4, _⟩ := ok_parts ho
  have h0 := h
  have FI := Lib.hid (fun (U : World) => rint_any c.co U o1.1 o1.2)
  have FR := Lib.hid (fun (U : World) => rreg_any c.r U o2.1 o2.2)
  obtain ⟨sI, hsI⟩ : ∃ s, s = intS c.co := ⟨_, rfl⟩
  obtain ⟨sR, hsR⟩ : ∃ s, s = strL (GrA.reg c.r) := ⟨_, rfl⟩
  have zI : sI.size ≤ 65 := by rw [hsI, intS, strL_size]; exact itoa_len64 o1.1 o1.2
  have zR : sR.size ≤ 65 := by rw [hsR, strL_size]; exact GrA.reg_len c.r
  rw [← hsI] at FI
  rw [← hsR] at FR
  have SI := Lib.hid hsI
  have SR := Lib.hid hsR
  obtain ⟨sV, hsV⟩ : ∃ s, s = strL (hexT c.va) := ⟨_, rfl⟩
  have FV := Lib.hid (fun (U : World) => rhexI_any c.va U o4.1 o4.2)
  have zV : sV.size ≤ 66 := by rw [hsV, strL_size]; exact hexT_len o4.1 o4.2
  rw [← hsV] at FV
  have SV := Lib.hid hsV
  obtain ⟨kk, hkk⟩ : ∃ k, k = c.k := ⟨_, rfl⟩
  obtain ⟨co, hcc⟩ : ∃ k, k = c.co := ⟨_, rfl⟩
  obtain ⟨rr, hrr⟩ : ∃ k, k = c.r := ⟨_, rfl⟩
  obtain ⟨aa, haa⟩ : ∃ k, k = c.ad := ⟨_, rfl⟩
  obtain ⟨vv, hvv⟩ : ∃ k, k = c.va := ⟨_, rfl⟩
  obtain ⟨ts, hts⟩ : ∃ ts, ts = c.args := ⟨_, rfl⟩
  rw [← hvv] at FV
  rw [← hcc] at FI
  rw [← hrr] at FR
  have E := Lib.hid (show strL c.pr = sI ++ ⟨#[58]⟩ ++ sR ++ (⟨#[61]⟩ ++ sV) by
    rw [pr_leaf (.inl h0), leafT, if_pos h0, SI.out, SR.out, SV.out, intS, show (⟨#[58]⟩ : ByteArray) = strL [58] from rfl, show (⟨#[61]⟩ : ByteArray) = strL [61] from rfl, strL_app, strL_app, strL_app, strL_app]
    rfl)
  have Z := Lib.hid (show sI.size ≤ 65 ∧ sV.size ≤ 66 ∧ sR.size ≤ 65 from ⟨zI, zV, zR⟩)
  clear hsR zR hsI zI
  have KE := Lib.hid (show kk = 1 from hkk.trans h0)
  clear h h0
  rw [← hts] at hn hl
  rw [← hkk, ← hcc, ← hrr, ← haa, ← hvv]
  have HN := Lib.hid hn
  have s1 : ¬ 9223372036854775807 < 1 + sV.size := by omega
  clear hsV ho o1 o2 o3 o4 hts hn hkk hcc hrr haa hvv
  go_enter Tryd.func12, Tryd.ntmps12
  go_upto_region 1 with fail
  refine to_cls ?_
  intro U0 hU0 y0
  have r_c : ∀ z : Wb U0, Row z.at w.heap.size [.int .i64 kk, .int .i64 co, .int .i64 rr, .int .u64 aa, .int .u64 vv, .slice p n q] 25 := Row.next (Row.new _ [.int .i64 kk, .int .i64 co, .int .i64 rr, .int .u64 aa, .int .u64 vv, .slice p n q] _) hU0
  have KK := Lib.hid (KB.next (KB.alloc (Below.refl w.heap.size w) _) hU0)
  clear hU0
  have c_0 := fun z : Wb U0 => (r_c z).cell 0
  have c_1 := fun z : Wb U0 => (r_c z).cell 1
  have c_2 := fun z : Wb U0 => (r_c z).cell 2
  have c_3 := fun z : Wb U0 => (r_c z).cell 3
  have c_4 := fun z : Wb U0 => (r_c z).cell 4
  have c_5 := fun z : Wb U0 => (r_c z).cell 5
  simp only [List.getElem?_cons_zero, List.getElem?_cons_succ] at c_0 c_1 c_2 c_3 c_4 c_5
  have LU := Lib.hid (fun z : Wb U0 => hl.below (KK.out z))
  clear r_c
  obtain ⟨pC, hpC⟩ : ∃ b, b = w.heap.size := ⟨_, rfl⟩
  rw [← hpC] at c_0 c_1 c_2 c_3 c_4 c_5
  simp only [← hpC]
  clear hpC hl

  have KY := Lib.hid (KK.out y0)
  have LY := Lib.hid (LU.out y0)
  have c_0 := y0.lift c_0
  have c_1 := y0.lift c_1
  have c_2 := y0.lift c_2
  have c_3 := y0.lift c_3
  have c_4 := y0.lift c_4
  have c_5 := y0.lift c_5
  clear KK LU
  go_upto_region 2 with (go_at_call 31; refine (FV.out _).mono ?_; rintro e w9 ⟨rfl, g⟩; obtain ⟨x9, rfl⟩ := Wb.start (W := y0.at) g; clear g)
  have c_0 := x9.lift c_0
  have c_1 := x9.lift c_1
  have c_2 := x9.lift c_2
  have c_3 := x9.lift c_3
  have c_4 := x9.lift c_4
  have c_5 := x9.lift c_5
  have LX := Lib.hid (LY.out.below x9.bel)
  have KX := Lib.hid (KY.out.trans (x9.bel.mono KY.out.size))
  clear LY KY FV
  obtain rfl := KE.out
  clear KE
  obtain ⟨q1, q2, q3⟩ := Z.out
  have u0 : ¬ 9223372036854775807 < sI.size + 1 := by omega
  have u1 : ¬ 9223372036854775807 < sI.size + 1 + sR.size := by omega
  have u2 : ¬ 9223372036854775807 < sI.size + 1 + sR.size + (1 + sV.size) := by omega
  clear q1 q2 q3
  go_upto_region 4 with fail
  refine wp_region_wb (by kernel_rfl) (by kernel_rfl) ?_
  repeat (go_big_quiet_step (first | (go_at_call 32; exact Calls.wb (FI.out _)) | (go_at_call 33; exact Calls.wb (FR.out _))))
  refine wpQuiet_nil ?_
  rintro _ ⟨x8, rfl⟩
  go_wp2
  go_ret
  exact ⟨by rw [E.out]; rfl, KX.out.trans (x8.bel.mono KX.out.size)⟩

set_option maxRecDepth 100000 in
set_option maxHeartbeats 6400000 in
theorem rprint_cell (c : Cnd) (p : Option Addr) (n q : Nat) (w : World) (hb : c.cnt ≤ 1000000) (ho : c.ok) (hn : n = c.args.length) (hl : LAt w c.args p 0) (h : c.k = 2) : Calls Tryd.prog 12 #[.agg #[.int .i64 c.k, .int .i64 c.co, .int .i64 c.r, .int .u64 c.ad, .int .u64 c.va, .slice p n q]] w fun e w' => e = .returned (.string (strL c.pr)) ∧ Below w.heap.size w w' := by
  obtain ⟨o1, o2, o3, o4, _⟩ := ok_parts ho
  have h0 := h
  have FA := Lib.hid (fun (U : World) => rhexI_any c.ad U o3.1 o3.2)
  obtain ⟨sA, hsA⟩ : ∃ s, s = strL (hexT c.ad) := ⟨_, rfl⟩
  have zA : sA.size ≤ 66 := by rw [hsA, strL_size]; exact hexT_len o3.1 o3.2
  rw [← hsA] at FA
  have SA := Lib.hid hsA
  obtain ⟨sV, hsV⟩ : ∃ s, s = strL (hexT c.va) := ⟨_, rfl⟩
  have FV := Lib.hid (fun (U : World) => rhexI_any c.va U o4.1 o4.2)
  have zV : sV.size ≤ 66 := by rw [hsV, strL_size]; exact hexT_len o4.1 o4.2
  rw [← hsV] at FV
  have SV := Lib.hid hsV
  obtain ⟨kk, hkk⟩ : ∃ k, k = c.k := ⟨_, rfl⟩
  obtain ⟨co, hcc⟩ : ∃ k, k = c.co := ⟨_, rfl⟩
  obtain ⟨rr, hrr⟩ : ∃ k, k = c.r := ⟨_, rfl⟩
  obtain ⟨aa, haa⟩ : ∃ k, k = c.ad := ⟨_, rfl⟩
  obtain ⟨vv, hvv⟩ : ∃ k, k = c.va := ⟨_, rfl⟩
  obtain ⟨ts, hts⟩ : ∃ ts, ts = c.args := ⟨_, rfl⟩
  rw [← hvv] at FV
  rw [← haa] at FA
  have E := Lib.hid (show strL c.pr = ⟨#[91]⟩ ++ sA ++ ⟨#[93]⟩ ++ (⟨#[61]⟩ ++ sV) by
    rw [pr_leaf (.inr (.inl h0)), leafT, if_neg (by omega), if_pos h0, SA.out, SV.out, show (⟨#[91]⟩ : ByteArray) = strL [91] from rfl, show (⟨#[93]⟩ : ByteArray) = strL [93] from rfl, show (⟨#[61]⟩ : ByteArray) = strL [61] from rfl, strL_app, strL_app, strL_app, strL_app]
    rfl)
  have Z := Lib.hid (show sV.size ≤ 66 ∧ sA.size ≤ 66 from ⟨zV, zA⟩)
  have KE := Lib.hid (show kk = 2 from hkk.trans h0)
  clear hsA zA h h0
  rw [← hts] at hn hl
  rw [← hkk, ← hcc, ← hrr, ← haa, ← hvv]
  have HN := Lib.hid hn
  have s1 : ¬ 9223372036854775807 < 1 + sV.size := by omega
  clear hsV ho o1 o2 o3 o4 hts hn hkk hcc hrr haa hvv
  go_enter Tryd.func12, Tryd.ntmps12
  go_upto_region 1 with fail
  refine to_cls ?_
  intro U0 hU0 y0
  have r_c : ∀ z : Wb U0, Row z.at w.heap.size [.int .i64 kk, .int .i64 co, .int .i64 rr, .int .u64 aa, .int .u64 vv, .slice p n q] 25 := Row.next (Row.new _ [.int .i64 kk, .int .i64 co, .int .i64 rr, .int .u64 aa, .int .u64 vv, .slice p n q] _) hU0
  have KK := Lib.hid (KB.next (KB.alloc (Below.refl w.heap.size w) _) hU0)
  clear hU0
  have c_0 := fun z : Wb U0 => (r_c z).cell 0
  have c_1 := fun z : Wb U0 => (r_c z).cell 1
  have c_2 := fun z : Wb U0 => (r_c z).cell 2
  have c_3 := fun z : Wb U0 => (r_c z).cell 3
  have c_4 := fun z : Wb U0 => (r_c z).cell 4
  have c_5 := fun z : Wb U0 => (r_c z).cell 5
  simp only [List.getElem?_cons_zero, List.getElem?_cons_succ] at c_0 c_1 c_2 c_3 c_4 c_5
  have LU := Lib.hid (fun z : Wb U0 => hl.below (KK.out z))
  clear r_c
  obtain ⟨pC, hpC⟩ : ∃ b, b = w.heap.size := ⟨_, rfl⟩
  rw [← hpC] at c_0 c_1 c_2 c_3 c_4 c_5
  simp only [← hpC]
  clear hpC hl

  have KY := Lib.hid (KK.out y0)
  have LY := Lib.hid (LU.out y0)
  have c_0 := y0.lift c_0
  have c_1 := y0.lift c_1
  have c_2 := y0.lift c_2
  have c_3 := y0.lift c_3
  have c_4 := y0.lift c_4
  have c_5 := y0.lift c_5
  clear KK LU
  go_upto_region 2 with (go_at_call 31; refine (FV.out _).mono ?_; rintro e w9 ⟨rfl, g⟩; obtain ⟨x9, rfl⟩ := Wb.start (W := y0.at) g; clear g)
  have c_0 := x9.lift c_0
  have c_1 := x9.lift c_1
  have c_2 := x9.lift c_2
  have c_3 := x9.lift c_3
  have c_4 := x9.lift c_4
  have c_5 := x9.lift c_5
  have LX := Lib.hid (LY.out.below x9.bel)
  have KX := Lib.hid (KY.out.trans (x9.bel.mono KY.out.size))
  clear LY KY FV
  obtain rfl := KE.out
  clear KE
  obtain ⟨q2, q3⟩ := Z.out
  have u0 : ¬ 9223372036854775807 < 1 + sA.size := by omega
  have u1 : ¬ 9223372036854775807 < 1 + sA.size + 1 := by omega
  have u2 : ¬ 9223372036854775807 < 1 + sA.size + 1 + (1 + sV.size) := by omega
  have c_0 := c_0 ⟨x9.at, Below.refl _ _⟩
  have c_1 := c_1 ⟨x9.at, Below.refl _ _⟩
  have c_2 := c_2 ⟨x9.at, Below.refl _ _⟩
  have c_3 := c_3 ⟨x9.at, Below.refl _ _⟩
  have c_4 := c_4 ⟨x9.at, Below.refl _ _⟩
  have c_5 := c_5 ⟨x9.at, Below.refl _ _⟩

  clear q2 q3
  go_wp2_with (go_at_call 31; refine (FA.out _).mono ?_; rintro e w9 ⟨rfl, g⟩; have G9 := Lib.hid g; clear g)
  go_ret
  exact ⟨by rw [E.out]; rfl, KX.out.trans (G9.out.mono KX.out.size)⟩

set_option maxRecDepth 100000 in
set_option maxHeartbeats 6400000 in
theorem rprint_flt (c : Cnd) (p : Option Addr) (n q : Nat) (w : World) (hb : c.cnt ≤ 1000000) (ho : c.ok) (hn : n = c.args.length) (hl : LAt w c.args p 0) (h : c.k = 3) : Calls Tryd.prog 12 #[.agg #[.int .i64 c.k, .int .i64 c.co, .int .i64 c.r, .int .u64 c.ad, .int .u64 c.va, .slice p n q]] w fun e w' => e = .returned (.string (strL c.pr)) ∧ Below w.heap.size w w' := by
  obtain ⟨o1, o2, o3, o4, _⟩ := ok_parts ho
  have h0 := h
  have FI := Lib.hid (fun (U : World) => rint_any c.co U o1.1 o1.2)
  obtain ⟨sI, hsI⟩ : ∃ s, s = intS c.co := ⟨_, rfl⟩
  have zI : sI.size ≤ 65 := by rw [hsI, intS, strL_size]; exact itoa_len64 o1.1 o1.2
  rw [← hsI] at FI
  have SI := Lib.hid hsI
  obtain ⟨sV, hsV⟩ : ∃ s, s = strL (hexT c.va) := ⟨_, rfl⟩
  have FV := Lib.hid (fun (U : World) => rhexI_any c.va U o4.1 o4.2)
  have zV : sV.size ≤ 66 := by rw [hsV, strL_size]; exact hexT_len o4.1 o4.2
  rw [← hsV] at FV
  have SV := Lib.hid hsV
  obtain ⟨kk, hkk⟩ : ∃ k, k = c.k := ⟨_, rfl⟩
  obtain ⟨co, hcc⟩ : ∃ k, k = c.co := ⟨_, rfl⟩
  obtain ⟨rr, hrr⟩ : ∃ k, k = c.r := ⟨_, rfl⟩
  obtain ⟨aa, haa⟩ : ∃ k, k = c.ad := ⟨_, rfl⟩
  obtain ⟨vv, hvv⟩ : ∃ k, k = c.va := ⟨_, rfl⟩
  obtain ⟨ts, hts⟩ : ∃ ts, ts = c.args := ⟨_, rfl⟩
  rw [← hvv] at FV
  rw [← hcc] at FI
  have E := Lib.hid (show strL c.pr = ⟨#[102, 97, 117, 108, 116, 115, 32]⟩ ++ sI ++ (⟨#[61]⟩ ++ sV) by
    rw [pr_leaf (.inr (.inr (.inl h0))), leafT, if_neg (by omega), if_neg (by omega), if_pos h0, SI.out, SV.out, intS, show (⟨#[102, 97, 117, 108, 116, 115, 32]⟩ : ByteArray) = strL [102, 97, 117, 108, 116, 115, 32] from rfl, show (⟨#[61]⟩ : ByteArray) = strL [61] from rfl, strL_app, strL_app, strL_app]
    rfl)
  have Z := Lib.hid (show sI.size ≤ 65 ∧ sV.size ≤ 66 from ⟨zI, zV⟩)
  have KE := Lib.hid (show kk = 3 from hkk.trans h0)
  clear hsI zI h h0
  rw [← hts] at hn hl
  rw [← hkk, ← hcc, ← hrr, ← haa, ← hvv]
  have HN := Lib.hid hn
  have s1 : ¬ 9223372036854775807 < 1 + sV.size := by omega
  clear hsV ho o1 o2 o3 o4 hts hn hkk hcc hrr haa hvv
  go_enter Tryd.func12, Tryd.ntmps12
  go_upto_region 1 with fail
  refine to_cls ?_
  intro U0 hU0 y0
  have r_c : ∀ z : Wb U0, Row z.at w.heap.size [.int .i64 kk, .int .i64 co, .int .i64 rr, .int .u64 aa, .int .u64 vv, .slice p n q] 25 := Row.next (Row.new _ [.int .i64 kk, .int .i64 co, .int .i64 rr, .int .u64 aa, .int .u64 vv, .slice p n q] _) hU0
  have KK := Lib.hid (KB.next (KB.alloc (Below.refl w.heap.size w) _) hU0)
  clear hU0
  have c_0 := fun z : Wb U0 => (r_c z).cell 0
  have c_1 := fun z : Wb U0 => (r_c z).cell 1
  have c_2 := fun z : Wb U0 => (r_c z).cell 2
  have c_3 := fun z : Wb U0 => (r_c z).cell 3
  have c_4 := fun z : Wb U0 => (r_c z).cell 4
  have c_5 := fun z : Wb U0 => (r_c z).cell 5
  simp only [List.getElem?_cons_zero, List.getElem?_cons_succ] at c_0 c_1 c_2 c_3 c_4 c_5
  have LU := Lib.hid (fun z : Wb U0 => hl.below (KK.out z))
  clear r_c
  obtain ⟨pC, hpC⟩ : ∃ b, b = w.heap.size := ⟨_, rfl⟩
  rw [← hpC] at c_0 c_1 c_2 c_3 c_4 c_5
  simp only [← hpC]
  clear hpC hl

  have KY := Lib.hid (KK.out y0)
  have LY := Lib.hid (LU.out y0)
  have c_0 := y0.lift c_0
  have c_1 := y0.lift c_1
  have c_2 := y0.lift c_2
  have c_3 := y0.lift c_3
  have c_4 := y0.lift c_4
  have c_5 := y0.lift c_5
  clear KK LU
  go_upto_region 2 with (go_at_call 31; refine (FV.out _).mono ?_; rintro e w9 ⟨rfl, g⟩; obtain ⟨x9, rfl⟩ := Wb.start (W := y0.at) g; clear g)
  have c_0 := x9.lift c_0
  have c_1 := x9.lift c_1
  have c_2 := x9.lift c_2
  have c_3 := x9.lift c_3
  have c_4 := x9.lift c_4
  have c_5 := x9.lift c_5
  have LX := Lib.hid (LY.out.below x9.bel)
  have KX := Lib.hid (KY.out.trans (x9.bel.mono KY.out.size))
  clear LY KY FV
  obtain rfl := KE.out
  clear KE
  obtain ⟨q1, q2⟩ := Z.out
  have u0 : ¬ 9223372036854775807 < 7 + sI.size := by omega
  have u1 : ¬ 9223372036854775807 < 7 + sI.size + (1 + sV.size) := by omega
  have c_0 := c_0 ⟨x9.at, Below.refl _ _⟩
  have c_1 := c_1 ⟨x9.at, Below.refl _ _⟩
  have c_2 := c_2 ⟨x9.at, Below.refl _ _⟩
  have c_3 := c_3 ⟨x9.at, Below.refl _ _⟩
  have c_4 := c_4 ⟨x9.at, Below.refl _ _⟩
  have c_5 := c_5 ⟨x9.at, Below.refl _ _⟩

  clear q1 q2
  go_wp2_with (go_at_call 32; refine (FI.out _).mono ?_; rintro e w9 ⟨rfl, g⟩; have G9 := Lib.hid g; clear g)
  go_ret
  exact ⟨by rw [E.out]; rfl, KX.out.trans (G9.out.mono KX.out.size)⟩

set_option maxRecDepth 100000 in
set_option maxHeartbeats 6400000 in
theorem rprint_true (c : Cnd) (p : Option Addr) (n q : Nat) (w : World) (hb : c.cnt ≤ 1000000) (ho : c.ok) (hn : n = c.args.length) (hl : LAt w c.args p 0) (h : c.k = 7) : Calls Tryd.prog 12 #[.agg #[.int .i64 c.k, .int .i64 c.co, .int .i64 c.r, .int .u64 c.ad, .int .u64 c.va, .slice p n q]] w fun e w' => e = .returned (.string (strL c.pr)) ∧ Below w.heap.size w w' := by
  obtain ⟨o1, o2, o3, o4, _⟩ := ok_parts ho
  have h0 := h
  obtain ⟨sV, hsV⟩ : ∃ s, s = strL (hexT c.va) := ⟨_, rfl⟩
  have FV := Lib.hid (fun (U : World) => rhexI_any c.va U o4.1 o4.2)
  have zV : sV.size ≤ 66 := by rw [hsV, strL_size]; exact hexT_len o4.1 o4.2
  rw [← hsV] at FV
  have SV := Lib.hid hsV
  obtain ⟨kk, hkk⟩ : ∃ k, k = c.k := ⟨_, rfl⟩
  obtain ⟨co, hcc⟩ : ∃ k, k = c.co := ⟨_, rfl⟩
  obtain ⟨rr, hrr⟩ : ∃ k, k = c.r := ⟨_, rfl⟩
  obtain ⟨aa, haa⟩ : ∃ k, k = c.ad := ⟨_, rfl⟩
  obtain ⟨vv, hvv⟩ : ∃ k, k = c.va := ⟨_, rfl⟩
  obtain ⟨ts, hts⟩ : ∃ ts, ts = c.args := ⟨_, rfl⟩
  rw [← hvv] at FV
  have E := Lib.hid (show strL c.pr = ⟨#[116, 114, 117, 101]⟩ by
    rw [pr_leaf (.inr (.inr (.inr h0))), leafT, if_neg (by omega), if_neg (by omega), if_neg (by omega)]
    rfl)
  have KE := Lib.hid (show kk = 7 from hkk.trans h0)
  clear h h0
  rw [← hts] at hn hl
  rw [← hkk, ← hcc, ← hrr, ← haa, ← hvv]
  have HN := Lib.hid hn
  have s1 : ¬ 9223372036854775807 < 1 + sV.size := by omega
  clear hsV ho o1 o2 o3 o4 hts hn hkk hcc hrr haa hvv
  go_enter Tryd.func12, Tryd.ntmps12
  go_upto_region 1 with fail
  refine to_cls ?_
  intro U0 hU0 y0
  have r_c : ∀ z : Wb U0, Row z.at w.heap.size [.int .i64 kk, .int .i64 co, .int .i64 rr, .int .u64 aa, .int .u64 vv, .slice p n q] 25 := Row.next (Row.new _ [.int .i64 kk, .int .i64 co, .int .i64 rr, .int .u64 aa, .int .u64 vv, .slice p n q] _) hU0
  have KK := Lib.hid (KB.next (KB.alloc (Below.refl w.heap.size w) _) hU0)
  clear hU0
  have c_0 := fun z : Wb U0 => (r_c z).cell 0
  have c_1 := fun z : Wb U0 => (r_c z).cell 1
  have c_2 := fun z : Wb U0 => (r_c z).cell 2
  have c_3 := fun z : Wb U0 => (r_c z).cell 3
  have c_4 := fun z : Wb U0 => (r_c z).cell 4
  have c_5 := fun z : Wb U0 => (r_c z).cell 5
  simp only [List.getElem?_cons_zero, List.getElem?_cons_succ] at c_0 c_1 c_2 c_3 c_4 c_5
  have LU := Lib.hid (fun z : Wb U0 => hl.below (KK.out z))
  clear r_c
  obtain ⟨pC, hpC⟩ : ∃ b, b = w.heap.size := ⟨_, rfl⟩
  rw [← hpC] at c_0 c_1 c_2 c_3 c_4 c_5
  simp only [← hpC]
  clear hpC hl

  have KY := Lib.hid (KK.out y0)
  have LY := Lib.hid (LU.out y0)
  have c_0 := y0.lift c_0
  have c_1 := y0.lift c_1
  have c_2 := y0.lift c_2
  have c_3 := y0.lift c_3
  have c_4 := y0.lift c_4
  have c_5 := y0.lift c_5
  clear KK LU
  go_upto_region 2 with (go_at_call 31; refine (FV.out _).mono ?_; rintro e w9 ⟨rfl, g⟩; obtain ⟨x9, rfl⟩ := Wb.start (W := y0.at) g; clear g)
  have c_0 := x9.lift c_0
  have c_1 := x9.lift c_1
  have c_2 := x9.lift c_2
  have c_3 := x9.lift c_3
  have c_4 := x9.lift c_4
  have c_5 := x9.lift c_5
  have LX := Lib.hid (LY.out.below x9.bel)
  have KX := Lib.hid (KY.out.trans (x9.bel.mono KY.out.size))
  clear LY KY FV
  obtain rfl := KE.out
  clear KE
  have c_0 := c_0 ⟨x9.at, Below.refl _ _⟩
  have c_1 := c_1 ⟨x9.at, Below.refl _ _⟩
  have c_2 := c_2 ⟨x9.at, Below.refl _ _⟩
  have c_3 := c_3 ⟨x9.at, Below.refl _ _⟩
  have c_4 := c_4 ⟨x9.at, Below.refl _ _⟩
  have c_5 := c_5 ⟨x9.at, Below.refl _ _⟩
  go_wp2
  go_ret
  exact ⟨by rw [E.out]; rfl, KX.out⟩

set_option maxRecDepth 100000 in
set_option maxHeartbeats 6400000 in
theorem rprint_not (c : Cnd) (p : Option Addr) (n q : Nat) (w : World) (hb : c.cnt ≤ 1000000) (ho : c.ok) (hn : n = c.args.length) (hl : LAt w c.args p 0) (N : Nat) (ih : ∀ (c : Cnd) (p : Option Addr) (n q : Nat) (w : World), c.cnt ≤ N → c.cnt ≤ 1000000 → c.ok → Rt c → n = c.args.length → LAt w c.args p 0 → Calls Tryd.prog 12 #[.agg #[.int .i64 c.k, .int .i64 c.co, .int .i64 c.r, .int .u64 c.ad, .int .u64 c.va, .slice p n q]] w fun e w' => e = .returned (.string (strL c.pr)) ∧ Below w.heap.size w w') (hc : c.cnt ≤ N + 1) (hr : ∀ t ∈ c.args, Rt t) (h : c.k = 6) (hlen : c.args.length = 1) : Calls Tryd.prog 12 #[.agg #[.int .i64 c.k, .int .i64 c.co, .int .i64 c.r, .int .u64 c.ad, .int .u64 c.va, .slice p n q]] w fun e w' => e = .returned (.string (strL c.pr)) ∧ Below w.heap.size w w' := by
  obtain ⟨o1, o2, o3, o4, _⟩ := ok_parts ho
  have h0 : 0 < c.args.length := by omega
  have MM : ∀ t ∈ c.args, t.cnt ≤ N ∧ t.cnt ≤ 1000000 ∧ t.ok ∧ Rt t ∧ t.pr.length ≤ 300000000 := fun t ht => by
    obtain ⟨i, hi, rfl⟩ := List.getElem_of_mem ht
    have q1 := mem_cnt hi
    have q2 := cnt_args c
    have q3 := (ok_parts ho).2.2.2.2 _ ht
    have q4 := pr_len _ (c.args[i]'hi) (Nat.le_refl _) q3
    exact ⟨by omega, by omega, q3, hr _ ht, by omega⟩

  obtain ⟨sV, hsV⟩ : ∃ s, s = strL (hexT c.va) := ⟨_, rfl⟩
  have FV := Lib.hid (fun (U : World) => rhexI_any c.va U o4.1 o4.2)
  have zV : sV.size ≤ 66 := by rw [hsV, strL_size]; exact hexT_len o4.1 o4.2
  rw [← hsV] at FV
  have SV := Lib.hid hsV
  obtain ⟨kk, hkk⟩ : ∃ k, k = c.k := ⟨_, rfl⟩
  obtain ⟨co, hcc⟩ : ∃ k, k = c.co := ⟨_, rfl⟩
  obtain ⟨rr, hrr⟩ : ∃ k, k = c.r := ⟨_, rfl⟩
  obtain ⟨aa, haa⟩ : ∃ k, k = c.ad := ⟨_, rfl⟩
  obtain ⟨vv, hvv⟩ : ∃ k, k = c.va := ⟨_, rfl⟩
  obtain ⟨ts, hts⟩ : ∃ ts, ts = c.args := ⟨_, rfl⟩
  rw [← hvv] at FV
  have LTS : ts.length = c.args.length := by rw [hts]
  rw [← hts] at MM
  have h0 : 0 < ts.length := by omega
  have m0 := MM _ (List.getElem_mem h0)
  have P0 := Lib.hid (fun (V : World) p2 n2 q2 hn2 hl2 => ih (ts[0]'h0) p2 n2 q2 V m0.1 m0.2.1 m0.2.2.1 m0.2.2.2.1 hn2 hl2)
  have L0 := Lib.hid m0.2.2.2.2
  have I0 := Lib.hid h0
  clear m0
  have E := Lib.hid (show ∀ h : 0 < ts.length, strL c.pr = ⟨#[126]⟩ ++ strL (wit 6 0 (ts[0]'h).k (ts[0]'h).pr) from fun h7 => by
    subst hts
    rw [pr_not h hlen (by omega), show (⟨#[126]⟩ : ByteArray) = strL [126] from rfl, strL_app]
    rfl)
  have KE := Lib.hid (show kk = 6 from hkk.trans h)
  have NE := Lib.hid (hn.trans hlen)
  clear h hlen hc ih hr MM LTS

  rw [← hts] at hn hl
  rw [← hkk, ← hcc, ← hrr, ← haa, ← hvv]
  have HN := Lib.hid hn
  have s1 : ¬ 9223372036854775807 < 1 + sV.size := by omega
  clear hsV ho o1 o2 o3 o4 hts hn hkk hcc hrr haa hvv
  go_enter Tryd.func12, Tryd.ntmps12
  go_upto_region 1 with fail
  refine to_cls ?_
  intro U0 hU0 y0
  have r_c : ∀ z : Wb U0, Row z.at w.heap.size [.int .i64 kk, .int .i64 co, .int .i64 rr, .int .u64 aa, .int .u64 vv, .slice p n q] 25 := Row.next (Row.new _ [.int .i64 kk, .int .i64 co, .int .i64 rr, .int .u64 aa, .int .u64 vv, .slice p n q] _) hU0
  have KK := Lib.hid (KB.next (KB.alloc (Below.refl w.heap.size w) _) hU0)
  clear hU0
  have c_0 := fun z : Wb U0 => (r_c z).cell 0
  have c_1 := fun z : Wb U0 => (r_c z).cell 1
  have c_2 := fun z : Wb U0 => (r_c z).cell 2
  have c_3 := fun z : Wb U0 => (r_c z).cell 3
  have c_4 := fun z : Wb U0 => (r_c z).cell 4
  have c_5 := fun z : Wb U0 => (r_c z).cell 5
  simp only [List.getElem?_cons_zero, List.getElem?_cons_succ] at c_0 c_1 c_2 c_3 c_4 c_5
  have LU := Lib.hid (fun z : Wb U0 => hl.below (KK.out z))
  clear r_c
  obtain ⟨pC, hpC⟩ : ∃ b, b = w.heap.size := ⟨_, rfl⟩
  rw [← hpC] at c_0 c_1 c_2 c_3 c_4 c_5
  simp only [← hpC]
  clear hpC hl

  have KY := Lib.hid (KK.out y0)
  have LY := Lib.hid (LU.out y0)
  have c_0 := y0.lift c_0
  have c_1 := y0.lift c_1
  have c_2 := y0.lift c_2
  have c_3 := y0.lift c_3
  have c_4 := y0.lift c_4
  have c_5 := y0.lift c_5
  clear KK LU
  go_upto_region 2 with (go_at_call 31; refine (FV.out _).mono ?_; rintro e w9 ⟨rfl, g⟩; obtain ⟨x9, rfl⟩ := Wb.start (W := y0.at) g; clear g)
  have c_0 := x9.lift c_0
  have c_1 := x9.lift c_1
  have c_2 := x9.lift c_2
  have c_3 := x9.lift c_3
  have c_4 := x9.lift c_4
  have c_5 := x9.lift c_5
  have LX := Lib.hid (LY.out.below x9.bel)
  have KX := Lib.hid (KY.out.trans (x9.bel.mono KY.out.size))
  clear LY KY FV
  obtain rfl := KE.out
  obtain rfl := NE.out
  clear KE NE
  obtain ⟨a, rfl⟩ := LX.out.addr 0 I0.out
  obtain ⟨p2, n2, q2, hn2, hl2, e0, e1, e2, e3, e4, e5⟩ := LX.out.first I0.out
  have W0 := Lib.hid (fun (U : World) (k : Below x9.at.heap.size x9.at U) (N : Nat) (hN : Row U N [.int .i64 4, .int .i64 5] 3) => rwrap_of (ts[0]'I0.out) p2 n2 q2 [4, 5] ⟨N, 0, none⟩ 2 2 (ts[0]'I0.out).pr U (hl2.below k) rfl (by omega) (fun j h => by
    have e : (⟨N, 0, none⟩ : Addr).add j = ⟨N, j, none⟩ := by unfold Addr.add; split <;> simp_all
    rw [e, hN.cell]
    match j, h with
    | 0, _ => rfl
    | 1, _ => rfl) (L0.out) (fun V k2 => P0.out V p2 n2 q2 hn2 ((hl2.below k).below k2)))
  rw [show (if (ts[0]'I0.out).k ∈ ([4, 5] : List Int) then (40 :: ((ts[0]'I0.out).pr ++ [41]) : Tx) else (ts[0]'I0.out).pr) = wit 6 0 (ts[0]'I0.out).k (ts[0]'I0.out).pr from wit_mem (by rw [wrapB_not]; simp [or_comm])] at W0
  obtain ⟨t0, ht0⟩ : ∃ t, t = wit 6 0 (ts[0]'I0.out).k (ts[0]'I0.out).pr := ⟨_, rfl⟩
  rw [← ht0] at W0
  have TZ0 : t0.length ≤ 300000002 := by rw [ht0]; have := wit_len 6 0 (ts[0]'I0.out).k (ts[0]'I0.out).pr; have := L0.out; omega
  have HT0 := Lib.hid ht0
  clear ht0
  obtain ⟨ex0, hex0⟩ : ∃ x, x = (ts[0]'I0.out).k := ⟨_, rfl⟩
  obtain ⟨ex1, hex1⟩ : ∃ x, x = (ts[0]'I0.out).co := ⟨_, rfl⟩
  obtain ⟨ex2, hex2⟩ : ∃ x, x = (ts[0]'I0.out).r := ⟨_, rfl⟩
  obtain ⟨ex3, hex3⟩ : ∃ x, x = (ts[0]'I0.out).ad := ⟨_, rfl⟩
  obtain ⟨ex4, hex4⟩ : ∃ x, x = (ts[0]'I0.out).va := ⟨_, rfl⟩
  rw [← hex0] at e0
  rw [← hex1] at e1
  rw [← hex2] at e2
  rw [← hex3] at e3
  rw [← hex4] at e4
  rw [← hex0, ← hex1, ← hex2, ← hex3, ← hex4] at W0
  have E := Lib.hid (show strL c.pr = ⟨#[126]⟩ ++ strL t0 by rw [E.out I0.out, HT0.out])
  have tz : (strL t0).size = t0.length := strL_size _
  have u0 : ¬ 9223372036854775807 < 1 + (strL t0).size := by omega
  clear tz TZ0 hn2 hl2 hex0 hex1 hex2 hex3 hex4
  have c_0 := c_0 ⟨x9.at, Below.refl _ _⟩
  have c_1 := c_1 ⟨x9.at, Below.refl _ _⟩
  have c_2 := c_2 ⟨x9.at, Below.refl _ _⟩
  have c_3 := c_3 ⟨x9.at, Below.refl _ _⟩
  have c_4 := c_4 ⟨x9.at, Below.refl _ _⟩
  have c_5 := c_5 ⟨x9.at, Below.refl _ _⟩
  go_wp2_with (go_at_call 34; refine (W0.out _ (KB.alloc (Below.refl _ _) _) _ (Row.new _ [.int .i64 4, .int .i64 5] _)).mono ?_; rintro e w9 ⟨rfl, g⟩; have G9 := Lib.hid (Bt (B := x9.at) (KB.alloc (Below.refl _ _) _) g); clear g)
  go_ret
  exact ⟨by rw [E.out]; rfl, KX.out.trans (G9.out.mono KX.out.size)⟩

set_option maxRecDepth 100000 in
set_option maxHeartbeats 6400000 in
theorem rprint_and (c : Cnd) (p : Option Addr) (n q : Nat) (w : World) (hb : c.cnt ≤ 1000000) (ho : c.ok) (hn : n = c.args.length) (hl : LAt w c.args p 0) (N : Nat) (ih : ∀ (c : Cnd) (p : Option Addr) (n q : Nat) (w : World), c.cnt ≤ N → c.cnt ≤ 1000000 → c.ok → Rt c → n = c.args.length → LAt w c.args p 0 → Calls Tryd.prog 12 #[.agg #[.int .i64 c.k, .int .i64 c.co, .int .i64 c.r, .int .u64 c.ad, .int .u64 c.va, .slice p n q]] w fun e w' => e = .returned (.string (strL c.pr)) ∧ Below w.heap.size w w') (hc : c.cnt ≤ N + 1) (hr : ∀ t ∈ c.args, Rt t) (h : c.k = 4) (hlen : c.args.length = 2) : Calls Tryd.prog 12 #[.agg #[.int .i64 c.k, .int .i64 c.co, .int .i64 c.r, .int .u64 c.ad, .int .u64 c.va, .slice p n q]] w fun e w' => e = .returned (.string (strL c.pr)) ∧ Below w.heap.size w w' := by
  obtain ⟨o1, o2, o3, o4, _⟩ := ok_parts ho
  have h0 : 0 < c.args.length := by omega
  have h1 : 1 < c.args.length := by omega
  have MM : ∀ t ∈ c.args, t.cnt ≤ N ∧ t.cnt ≤ 1000000 ∧ t.ok ∧ Rt t ∧ t.pr.length ≤ 300000000 := fun t ht => by
    obtain ⟨i, hi, rfl⟩ := List.getElem_of_mem ht
    have q1 := mem_cnt hi
    have q2 := cnt_args c
    have q3 := (ok_parts ho).2.2.2.2 _ ht
    have q4 := pr_len _ (c.args[i]'hi) (Nat.le_refl _) q3
    exact ⟨by omega, by omega, q3, hr _ ht, by omega⟩

  obtain ⟨sV, hsV⟩ : ∃ s, s = strL (hexT c.va) := ⟨_, rfl⟩
  have FV := Lib.hid (fun (U : World) => rhexI_any c.va U o4.1 o4.2)
  have zV : sV.size ≤ 66 := by rw [hsV, strL_size]; exact hexT_len o4.1 o4.2
  rw [← hsV] at FV
  have SV := Lib.hid hsV
  obtain ⟨kk, hkk⟩ : ∃ k, k = c.k := ⟨_, rfl⟩
  obtain ⟨co, hcc⟩ : ∃ k, k = c.co := ⟨_, rfl⟩
  obtain ⟨rr, hrr⟩ : ∃ k, k = c.r := ⟨_, rfl⟩
  obtain ⟨aa, haa⟩ : ∃ k, k = c.ad := ⟨_, rfl⟩
  obtain ⟨vv, hvv⟩ : ∃ k, k = c.va := ⟨_, rfl⟩
  obtain ⟨ts, hts⟩ : ∃ ts, ts = c.args := ⟨_, rfl⟩
  rw [← hvv] at FV
  have LTS : ts.length = c.args.length := by rw [hts]
  rw [← hts] at MM
  have h0 : 0 < ts.length := by omega
  have m0 := MM _ (List.getElem_mem h0)
  have P0 := Lib.hid (fun (V : World) p2 n2 q2 hn2 hl2 => ih (ts[0]'h0) p2 n2 q2 V m0.1 m0.2.1 m0.2.2.1 m0.2.2.2.1 hn2 hl2)
  have L0 := Lib.hid m0.2.2.2.2
  have I0 := Lib.hid h0
  clear m0
  have h1 : 1 < ts.length := by omega
  have m1 := MM _ (List.getElem_mem h1)
  have P1 := Lib.hid (fun (V : World) p2 n2 q2 hn2 hl2 => ih (ts[1]'h1) p2 n2 q2 V m1.1 m1.2.1 m1.2.2.1 m1.2.2.2.1 hn2 hl2)
  have L1 := Lib.hid m1.2.2.2.2
  have I1 := Lib.hid h1
  clear m1
  have E := Lib.hid (show ∀ (h : 0 < ts.length) (h2 : 1 < ts.length), strL c.pr = strL (wit 4 0 (ts[0]'h).k (ts[0]'h).pr) ++ ⟨#[32, 47, 92, 32]⟩ ++ strL (wit 4 1 (ts[1]'h2).k (ts[1]'h2).pr) from fun h7 h8 => by
    subst hts
    rw [pr_two (.inl h) hlen (by omega) (by omega), h, show (⟨#[32, 47, 92, 32]⟩ : ByteArray) = strL [32, 47, 92, 32] from rfl, strL_app, strL_app]
    rfl)
  have KE := Lib.hid (show kk = 4 from hkk.trans h)
  have NE := Lib.hid (hn.trans hlen)
  clear h hlen hc ih hr MM LTS

  rw [← hts] at hn hl
  rw [← hkk, ← hcc, ← hrr, ← haa, ← hvv]
  have HN := Lib.hid hn
  have s1 : ¬ 9223372036854775807 < 1 + sV.size := by omega
  clear hsV ho o1 o2 o3 o4 hts hn hkk hcc hrr haa hvv
  go_enter Tryd.func12, Tryd.ntmps12
  go_upto_region 1 with fail
  refine to_cls ?_
  intro U0 hU0 y0
  have r_c : ∀ z : Wb U0, Row z.at w.heap.size [.int .i64 kk, .int .i64 co, .int .i64 rr, .int .u64 aa, .int .u64 vv, .slice p n q] 25 := Row.next (Row.new _ [.int .i64 kk, .int .i64 co, .int .i64 rr, .int .u64 aa, .int .u64 vv, .slice p n q] _) hU0
  have KK := Lib.hid (KB.next (KB.alloc (Below.refl w.heap.size w) _) hU0)
  clear hU0
  have c_0 := fun z : Wb U0 => (r_c z).cell 0
  have c_1 := fun z : Wb U0 => (r_c z).cell 1
  have c_2 := fun z : Wb U0 => (r_c z).cell 2
  have c_3 := fun z : Wb U0 => (r_c z).cell 3
  have c_4 := fun z : Wb U0 => (r_c z).cell 4
  have c_5 := fun z : Wb U0 => (r_c z).cell 5
  simp only [List.getElem?_cons_zero, List.getElem?_cons_succ] at c_0 c_1 c_2 c_3 c_4 c_5
  have LU := Lib.hid (fun z : Wb U0 => hl.below (KK.out z))
  clear r_c
  obtain ⟨pC, hpC⟩ : ∃ b, b = w.heap.size := ⟨_, rfl⟩
  rw [← hpC] at c_0 c_1 c_2 c_3 c_4 c_5
  simp only [← hpC]
  clear hpC hl

  have KY := Lib.hid (KK.out y0)
  have LY := Lib.hid (LU.out y0)
  have c_0 := y0.lift c_0
  have c_1 := y0.lift c_1
  have c_2 := y0.lift c_2
  have c_3 := y0.lift c_3
  have c_4 := y0.lift c_4
  have c_5 := y0.lift c_5
  clear KK LU
  go_upto_region 2 with (go_at_call 31; refine (FV.out _).mono ?_; rintro e w9 ⟨rfl, g⟩; obtain ⟨x9, rfl⟩ := Wb.start (W := y0.at) g; clear g)
  have c_0 := x9.lift c_0
  have c_1 := x9.lift c_1
  have c_2 := x9.lift c_2
  have c_3 := x9.lift c_3
  have c_4 := x9.lift c_4
  have c_5 := x9.lift c_5
  have LX := Lib.hid (LY.out.below x9.bel)
  have KX := Lib.hid (KY.out.trans (x9.bel.mono KY.out.size))
  clear LY KY FV
  obtain rfl := KE.out
  obtain rfl := NE.out
  clear KE NE
  obtain ⟨a, rfl⟩ := LX.out.addr 0 I0.out
  obtain ⟨p2, n2, q2, hn2, hl2, e0, e1, e2, e3, e4, e5⟩ := LX.out.first I0.out
  obtain ⟨p3, n3, q3, hn3, hl3, f0, f1, f2, f3, f4, f5⟩ := LX.out.second I1.out
  have W0 := Lib.hid (fun (U : World) (k : Below x9.at.heap.size x9.at U) (N : Nat) (hN : Row U N [.int .i64 5] 3) => rwrap_of (ts[0]'I0.out) p2 n2 q2 [5] ⟨N, 0, none⟩ 1 1 (ts[0]'I0.out).pr U (hl2.below k) rfl (by omega) (fun j h => by
    have e : (⟨N, 0, none⟩ : Addr).add j = ⟨N, j, none⟩ := by unfold Addr.add; split <;> simp_all
    rw [e, hN.cell]
    match j, h with
    | 0, _ => rfl) (L0.out) (fun V k2 => P0.out V p2 n2 q2 hn2 ((hl2.below k).below k2)))
  rw [show (if (ts[0]'I0.out).k ∈ ([5] : List Int) then (40 :: ((ts[0]'I0.out).pr ++ [41]) : Tx) else (ts[0]'I0.out).pr) = wit 4 0 (ts[0]'I0.out).k (ts[0]'I0.out).pr from wit_mem (by rw [wrapB_and0]; simp)] at W0
  obtain ⟨t0, ht0⟩ : ∃ t, t = wit 4 0 (ts[0]'I0.out).k (ts[0]'I0.out).pr := ⟨_, rfl⟩
  rw [← ht0] at W0
  have TZ0 : t0.length ≤ 300000002 := by rw [ht0]; have := wit_len 4 0 (ts[0]'I0.out).k (ts[0]'I0.out).pr; have := L0.out; omega
  have HT0 := Lib.hid ht0
  clear ht0
  obtain ⟨ex0, hex0⟩ : ∃ x, x = (ts[0]'I0.out).k := ⟨_, rfl⟩
  obtain ⟨ex1, hex1⟩ : ∃ x, x = (ts[0]'I0.out).co := ⟨_, rfl⟩
  obtain ⟨ex2, hex2⟩ : ∃ x, x = (ts[0]'I0.out).r := ⟨_, rfl⟩
  obtain ⟨ex3, hex3⟩ : ∃ x, x = (ts[0]'I0.out).ad := ⟨_, rfl⟩
  obtain ⟨ex4, hex4⟩ : ∃ x, x = (ts[0]'I0.out).va := ⟨_, rfl⟩
  rw [← hex0] at e0
  rw [← hex1] at e1
  rw [← hex2] at e2
  rw [← hex3] at e3
  rw [← hex4] at e4
  rw [← hex0, ← hex1, ← hex2, ← hex3, ← hex4] at W0
  have W1 := Lib.hid (fun (U : World) (k : Below x9.at.heap.size x9.at U) (N : Nat) (hN : Row U N [.int .i64 5, .int .i64 4] 3) => rwrap_of (ts[1]'I1.out) p3 n3 q3 [5, 4] ⟨N, 0, none⟩ 2 2 (ts[1]'I1.out).pr U (hl3.below k) rfl (by omega) (fun j h => by
    have e : (⟨N, 0, none⟩ : Addr).add j = ⟨N, j, none⟩ := by unfold Addr.add; split <;> simp_all
    rw [e, hN.cell]
    match j, h with
    | 0, _ => rfl
    | 1, _ => rfl) (L1.out) (fun V k2 => P1.out V p3 n3 q3 hn3 ((hl3.below k).below k2)))
  rw [show (if (ts[1]'I1.out).k ∈ ([5, 4] : List Int) then (40 :: ((ts[1]'I1.out).pr ++ [41]) : Tx) else (ts[1]'I1.out).pr) = wit 4 1 (ts[1]'I1.out).k (ts[1]'I1.out).pr from wit_mem (by rw [wrapB_and1]; simp)] at W1
  obtain ⟨t1, ht1⟩ : ∃ t, t = wit 4 1 (ts[1]'I1.out).k (ts[1]'I1.out).pr := ⟨_, rfl⟩
  rw [← ht1] at W1
  have TZ1 : t1.length ≤ 300000002 := by rw [ht1]; have := wit_len 4 1 (ts[1]'I1.out).k (ts[1]'I1.out).pr; have := L1.out; omega
  have HT1 := Lib.hid ht1
  clear ht1
  obtain ⟨fx0, hfx0⟩ : ∃ x, x = (ts[1]'I1.out).k := ⟨_, rfl⟩
  obtain ⟨fx1, hfx1⟩ : ∃ x, x = (ts[1]'I1.out).co := ⟨_, rfl⟩
  obtain ⟨fx2, hfx2⟩ : ∃ x, x = (ts[1]'I1.out).r := ⟨_, rfl⟩
  obtain ⟨fx3, hfx3⟩ : ∃ x, x = (ts[1]'I1.out).ad := ⟨_, rfl⟩
  obtain ⟨fx4, hfx4⟩ : ∃ x, x = (ts[1]'I1.out).va := ⟨_, rfl⟩
  rw [← hfx0] at f0
  rw [← hfx1] at f1
  rw [← hfx2] at f2
  rw [← hfx3] at f3
  rw [← hfx4] at f4
  rw [← hfx0, ← hfx1, ← hfx2, ← hfx3, ← hfx4] at W1
  have E := Lib.hid (show strL c.pr = strL t0 ++ ⟨#[32, 47, 92, 32]⟩ ++ strL t1 by rw [E.out I0.out I1.out, HT0.out, HT1.out])
  have tz0 : (strL t0).size = t0.length := strL_size _
  have tz1 : (strL t1).size = t1.length := strL_size _
  have u0 : ¬ 9223372036854775807 < (strL t0).size + 4 := by omega
  have u1 : ¬ 9223372036854775807 < (strL t0).size + 4 + (strL t1).size := by omega
  have W0 := Lib.hid (fun U k N hN => Calls.bt k (W0.out U k N hN))
  have W1 := Lib.hid (fun U k N hN => Calls.bt k (W1.out U k N hN))
  have SS := Lib.hid (fun (V : World) (k : Below x9.at.heap.size x9.at V) => (show V.cell? ⟨pC, 5, none⟩ = some (.slice (some a) 2 q) ∧ V.cell? a = some (.int .i64 ex0) ∧ V.cell? ⟨a.block, a.off + 1, none⟩ = some (.int .i64 ex1) ∧ V.cell? ⟨a.block, a.off + 2, none⟩ = some (.int .i64 ex2) ∧ V.cell? ⟨a.block, a.off + 3, none⟩ = some (.int .u64 ex3) ∧ V.cell? ⟨a.block, a.off + 4, none⟩ = some (.int .u64 ex4) ∧ V.cell? ⟨a.block, a.off + 5, none⟩ = some (.slice p2 n2 q2) ∧ V.cell? ⟨a.block, a.off + 6, none⟩ = some (.int .i64 fx0) ∧ V.cell? ⟨a.block, a.off + 6 + 1, none⟩ = some (.int .i64 fx1) ∧ V.cell? ⟨a.block, a.off + 6 + 2, none⟩ = some (.int .i64 fx2) ∧ V.cell? ⟨a.block, a.off + 6 + 3, none⟩ = some (.int .u64 fx3) ∧ V.cell? ⟨a.block, a.off + 6 + 4, none⟩ = some (.int .u64 fx4) ∧ V.cell? ⟨a.block, a.off + 6 + 5, none⟩ = some (.slice p3 n3 q3) from ⟨keep_below k _ _ (c_5 ⟨x9.at, Below.refl _ _⟩), keep_below k _ _ e0, keep_below k _ _ e1, keep_below k _ _ e2, keep_below k _ _ e3, keep_below k _ _ e4, keep_below k _ _ e5, keep_below k _ _ f0, keep_below k _ _ f1, keep_below k _ _ f2, keep_below k _ _ f3, keep_below k _ _ f4, keep_below k _ _ f5⟩))
  clear tz0 tz1 TZ0 TZ1 hn2 hl2 hn3 hl3 hex0 hex1 hex2 hex3 hex4 hfx0 hfx1 hfx2 hfx3 hfx4
  have c_0 := c_0 ⟨x9.at, Below.refl _ _⟩
  have c_1 := c_1 ⟨x9.at, Below.refl _ _⟩
  have c_2 := c_2 ⟨x9.at, Below.refl _ _⟩
  have c_3 := c_3 ⟨x9.at, Below.refl _ _⟩
  have c_4 := c_4 ⟨x9.at, Below.refl _ _⟩
  have c_5 := c_5 ⟨x9.at, Below.refl _ _⟩
  have X5 := Lib.hid (Below.refl x9.at.heap.size x9.at)
  have G5 := Lib.hid (Below.refl x9.at.heap.size x9.at)
  go_upto_region 12 with fail
  go_region_held3 (fun V => V.cell? ⟨pC, 5, none⟩ = some (.slice (some a) 2 q) ∧ V.cell? a = some (.int .i64 ex0) ∧ V.cell? ⟨a.block, a.off + 1, none⟩ = some (.int .i64 ex1) ∧ V.cell? ⟨a.block, a.off + 2, none⟩ = some (.int .i64 ex2) ∧ V.cell? ⟨a.block, a.off + 3, none⟩ = some (.int .u64 ex3) ∧ V.cell? ⟨a.block, a.off + 4, none⟩ = some (.int .u64 ex4) ∧ V.cell? ⟨a.block, a.off + 5, none⟩ = some (.slice p2 n2 q2) ∧ V.cell? ⟨a.block, a.off + 6, none⟩ = some (.int .i64 fx0) ∧ V.cell? ⟨a.block, a.off + 6 + 1, none⟩ = some (.int .i64 fx1) ∧ V.cell? ⟨a.block, a.off + 6 + 2, none⟩ = some (.int .i64 fx2) ∧ V.cell? ⟨a.block, a.off + 6 + 3, none⟩ = some (.int .u64 fx3) ∧ V.cell? ⟨a.block, a.off + 6 + 4, none⟩ = some (.int .u64 fx4) ∧ V.cell? ⟨a.block, a.off + 6 + 5, none⟩ = some (.slice p3 n3 q3))
    (first | (refine SS.out _ ?_; repeat' (first | (with_reducible exact Below.refl _ _) | (with_reducible exact X5.out) | (with_reducible refine KB.alloc ?_ _) | (with_reducible refine Below.drew ?_))))
    (first | (go_at_call 34; (with_reducible refine (W0.out _ ?hk _ ?hN).mono ?_); (case hk => (repeat' (first | (with_reducible exact Below.refl _ _) | (with_reducible exact X5.out) | (with_reducible refine KB.alloc ?_ _) | (with_reducible refine Below.drew ?_)))); (case hN => (((try with_reducible refine Row.drew ?_); (first | exact Row.new _ [.int .i64 5] _ | exact (Row.new _ [.int .i64 5] _).old _ | exact Row.new' _ [.int .i64 5] _ _ (by simp; done) | exact (Row.new' _ [.int .i64 5] _ _ (by simp; done)).old _ | exact (Row.new _ [.int .i64 5] _).below G5.out | exact ((Row.new _ [.int .i64 5] _).drew).below G5.out | exact (((Row.new _ [.int .i64 5] _).old _).drew).below G5.out | exact ((Row.new' _ [.int .i64 5] _ _ (by simp; done)).drew).below G5.out)))); rintro e5 w5 ⟨rfl, g5, k5⟩; have G5 := Lib.hid g5; have X5 := Lib.hid k5; clear g5 k5) | (go_at_call 34; (with_reducible refine (W1.out _ ?hk _ ?hN).mono ?_); (case hk => (repeat' (first | (with_reducible exact Below.refl _ _) | (with_reducible exact X5.out) | (with_reducible refine KB.alloc ?_ _) | (with_reducible refine Below.drew ?_)))); (case hN => (((try with_reducible refine Row.drew ?_); (first | exact Row.new _ [.int .i64 5, .int .i64 4] _ | exact (Row.new _ [.int .i64 5, .int .i64 4] _).old _ | exact Row.new' _ [.int .i64 5, .int .i64 4] _ _ (by simp; done) | exact (Row.new' _ [.int .i64 5, .int .i64 4] _ _ (by simp; done)).old _ | exact (Row.new _ [.int .i64 5, .int .i64 4] _).below G5.out | exact ((Row.new _ [.int .i64 5, .int .i64 4] _).drew).below G5.out | exact (((Row.new _ [.int .i64 5, .int .i64 4] _).old _).drew).below G5.out | exact ((Row.new' _ [.int .i64 5, .int .i64 4] _ _ (by simp; done)).drew).below G5.out)))); rintro e5 w5 ⟨rfl, g5, k5⟩; have G5 := Lib.hid g5; have X5 := Lib.hid k5; clear g5 k5))
  all_goals
    go_wp2
    go_ret
    exact ⟨by rw [E.out]; rfl, KX.out.trans (X5.out.mono KX.out.size)⟩

set_option maxRecDepth 100000 in
set_option maxHeartbeats 6400000 in
theorem rprint_or (c : Cnd) (p : Option Addr) (n q : Nat) (w : World) (hb : c.cnt ≤ 1000000) (ho : c.ok) (hn : n = c.args.length) (hl : LAt w c.args p 0) (N : Nat) (ih : ∀ (c : Cnd) (p : Option Addr) (n q : Nat) (w : World), c.cnt ≤ N → c.cnt ≤ 1000000 → c.ok → Rt c → n = c.args.length → LAt w c.args p 0 → Calls Tryd.prog 12 #[.agg #[.int .i64 c.k, .int .i64 c.co, .int .i64 c.r, .int .u64 c.ad, .int .u64 c.va, .slice p n q]] w fun e w' => e = .returned (.string (strL c.pr)) ∧ Below w.heap.size w w') (hc : c.cnt ≤ N + 1) (hr : ∀ t ∈ c.args, Rt t) (h : c.k = 5) (hlen : c.args.length = 2) : Calls Tryd.prog 12 #[.agg #[.int .i64 c.k, .int .i64 c.co, .int .i64 c.r, .int .u64 c.ad, .int .u64 c.va, .slice p n q]] w fun e w' => e = .returned (.string (strL c.pr)) ∧ Below w.heap.size w w' := by
  obtain ⟨o1, o2, o3, o4, _⟩ := ok_parts ho
  have h0 : 0 < c.args.length := by omega
  have h1 : 1 < c.args.length := by omega
  have MM : ∀ t ∈ c.args, t.cnt ≤ N ∧ t.cnt ≤ 1000000 ∧ t.ok ∧ Rt t ∧ t.pr.length ≤ 300000000 := fun t ht => by
    obtain ⟨i, hi, rfl⟩ := List.getElem_of_mem ht
    have q1 := mem_cnt hi
    have q2 := cnt_args c
    have q3 := (ok_parts ho).2.2.2.2 _ ht
    have q4 := pr_len _ (c.args[i]'hi) (Nat.le_refl _) q3
    exact ⟨by omega, by omega, q3, hr _ ht, by omega⟩

  obtain ⟨sV, hsV⟩ : ∃ s, s = strL (hexT c.va) := ⟨_, rfl⟩
  have FV := Lib.hid (fun (U : World) => rhexI_any c.va U o4.1 o4.2)
  have zV : sV.size ≤ 66 := by rw [hsV, strL_size]; exact hexT_len o4.1 o4.2
  rw [← hsV] at FV
  have SV := Lib.hid hsV
  obtain ⟨kk, hkk⟩ : ∃ k, k = c.k := ⟨_, rfl⟩
  obtain ⟨co, hcc⟩ : ∃ k, k = c.co := ⟨_, rfl⟩
  obtain ⟨rr, hrr⟩ : ∃ k, k = c.r := ⟨_, rfl⟩
  obtain ⟨aa, haa⟩ : ∃ k, k = c.ad := ⟨_, rfl⟩
  obtain ⟨vv, hvv⟩ : ∃ k, k = c.va := ⟨_, rfl⟩
  obtain ⟨ts, hts⟩ : ∃ ts, ts = c.args := ⟨_, rfl⟩
  rw [← hvv] at FV
  have LTS : ts.length = c.args.length := by rw [hts]
  rw [← hts] at MM
  have h0 : 0 < ts.length := by omega
  have m0 := MM _ (List.getElem_mem h0)
  have P0 := Lib.hid (fun (V : World) p2 n2 q2 hn2 hl2 => ih (ts[0]'h0) p2 n2 q2 V m0.1 m0.2.1 m0.2.2.1 m0.2.2.2.1 hn2 hl2)
  have L0 := Lib.hid m0.2.2.2.2
  have I0 := Lib.hid h0
  clear m0
  have h1 : 1 < ts.length := by omega
  have m1 := MM _ (List.getElem_mem h1)
  have P1 := Lib.hid (fun (V : World) p2 n2 q2 hn2 hl2 => ih (ts[1]'h1) p2 n2 q2 V m1.1 m1.2.1 m1.2.2.1 m1.2.2.2.1 hn2 hl2)
  have L1 := Lib.hid m1.2.2.2.2
  have I1 := Lib.hid h1
  clear m1
  have E := Lib.hid (show ∀ (h : 0 < ts.length) (h2 : 1 < ts.length), strL c.pr = strL (ts[0]'h).pr ++ ⟨#[32, 92, 47, 32]⟩ ++ strL (wit 5 1 (ts[1]'h2).k (ts[1]'h2).pr) from fun h7 h8 => by
    subst hts
    rw [pr_two (.inr h) hlen (by omega) (by omega), h, wit_no wrapB_or0, show (⟨#[32, 92, 47, 32]⟩ : ByteArray) = strL [32, 92, 47, 32] from rfl, strL_app, strL_app]
    rfl)
  have KE := Lib.hid (show kk = 5 from hkk.trans h)
  have NE := Lib.hid (hn.trans hlen)
  clear h hlen hc ih hr MM LTS

  rw [← hts] at hn hl
  rw [← hkk, ← hcc, ← hrr, ← haa, ← hvv]
  have HN := Lib.hid hn
  have s1 : ¬ 9223372036854775807 < 1 + sV.size := by omega
  clear hsV ho o1 o2 o3 o4 hts hn hkk hcc hrr haa hvv
  go_enter Tryd.func12, Tryd.ntmps12
  go_upto_region 1 with fail
  refine to_cls ?_
  intro U0 hU0 y0
  have r_c : ∀ z : Wb U0, Row z.at w.heap.size [.int .i64 kk, .int .i64 co, .int .i64 rr, .int .u64 aa, .int .u64 vv, .slice p n q] 25 := Row.next (Row.new _ [.int .i64 kk, .int .i64 co, .int .i64 rr, .int .u64 aa, .int .u64 vv, .slice p n q] _) hU0
  have KK := Lib.hid (KB.next (KB.alloc (Below.refl w.heap.size w) _) hU0)
  clear hU0
  have c_0 := fun z : Wb U0 => (r_c z).cell 0
  have c_1 := fun z : Wb U0 => (r_c z).cell 1
  have c_2 := fun z : Wb U0 => (r_c z).cell 2
  have c_3 := fun z : Wb U0 => (r_c z).cell 3
  have c_4 := fun z : Wb U0 => (r_c z).cell 4
  have c_5 := fun z : Wb U0 => (r_c z).cell 5
  simp only [List.getElem?_cons_zero, List.getElem?_cons_succ] at c_0 c_1 c_2 c_3 c_4 c_5
  have LU := Lib.hid (fun z : Wb U0 => hl.below (KK.out z))
  clear r_c
  obtain ⟨pC, hpC⟩ : ∃ b, b = w.heap.size := ⟨_, rfl⟩
  rw [← hpC] at c_0 c_1 c_2 c_3 c_4 c_5
  simp only [← hpC]
  clear hpC hl

  have KY := Lib.hid (KK.out y0)
  have LY := Lib.hid (LU.out y0)
  have c_0 := y0.lift c_0
  have c_1 := y0.lift c_1
  have c_2 := y0.lift c_2
  have c_3 := y0.lift c_3
  have c_4 := y0.lift c_4
  have c_5 := y0.lift c_5
  clear KK LU
  go_upto_region 2 with (go_at_call 31; refine (FV.out _).mono ?_; rintro e w9 ⟨rfl, g⟩; obtain ⟨x9, rfl⟩ := Wb.start (W := y0.at) g; clear g)
  have c_0 := x9.lift c_0
  have c_1 := x9.lift c_1
  have c_2 := x9.lift c_2
  have c_3 := x9.lift c_3
  have c_4 := x9.lift c_4
  have c_5 := x9.lift c_5
  have LX := Lib.hid (LY.out.below x9.bel)
  have KX := Lib.hid (KY.out.trans (x9.bel.mono KY.out.size))
  clear LY KY FV
  obtain rfl := KE.out
  obtain rfl := NE.out
  clear KE NE
  obtain ⟨a, rfl⟩ := LX.out.addr 0 I0.out
  obtain ⟨p2, n2, q2, hn2, hl2, e0, e1, e2, e3, e4, e5⟩ := LX.out.first I0.out
  obtain ⟨p3, n3, q3, hn3, hl3, f0, f1, f2, f3, f4, f5⟩ := LX.out.second I1.out
  have Q0 := Lib.hid (fun (U : World) (k : Below x9.at.heap.size x9.at U) => Calls.bt k (P0.out U p2 n2 q2 hn2 (hl2.below k)))
  obtain ⟨t0, ht0⟩ : ∃ t, t = (ts[0]'I0.out).pr := ⟨_, rfl⟩
  rw [← ht0] at Q0
  have TZ0 : t0.length ≤ 300000000 := by rw [ht0]; exact L0.out
  have HT0 := Lib.hid ht0
  clear ht0
  obtain ⟨ex0, hex0⟩ : ∃ x, x = (ts[0]'I0.out).k := ⟨_, rfl⟩
  obtain ⟨ex1, hex1⟩ : ∃ x, x = (ts[0]'I0.out).co := ⟨_, rfl⟩
  obtain ⟨ex2, hex2⟩ : ∃ x, x = (ts[0]'I0.out).r := ⟨_, rfl⟩
  obtain ⟨ex3, hex3⟩ : ∃ x, x = (ts[0]'I0.out).ad := ⟨_, rfl⟩
  obtain ⟨ex4, hex4⟩ : ∃ x, x = (ts[0]'I0.out).va := ⟨_, rfl⟩
  rw [← hex0] at e0
  rw [← hex1] at e1
  rw [← hex2] at e2
  rw [← hex3] at e3
  rw [← hex4] at e4
  rw [← hex0, ← hex1, ← hex2, ← hex3, ← hex4] at Q0
  have W1 := Lib.hid (fun (U : World) (k : Below x9.at.heap.size x9.at U) (N : Nat) (hN : Row U N [.int .i64 5] 3) => rwrap_of (ts[1]'I1.out) p3 n3 q3 [5] ⟨N, 0, none⟩ 1 1 (ts[1]'I1.out).pr U (hl3.below k) rfl (by omega) (fun j h => by
    have e : (⟨N, 0, none⟩ : Addr).add j = ⟨N, j, none⟩ := by unfold Addr.add; split <;> simp_all
    rw [e, hN.cell]
    match j, h with
    | 0, _ => rfl) (L1.out) (fun V k2 => P1.out V p3 n3 q3 hn3 ((hl3.below k).below k2)))
  rw [show (if (ts[1]'I1.out).k ∈ ([5] : List Int) then (40 :: ((ts[1]'I1.out).pr ++ [41]) : Tx) else (ts[1]'I1.out).pr) = wit 5 1 (ts[1]'I1.out).k (ts[1]'I1.out).pr from wit_mem (by rw [wrapB_or1]; simp)] at W1
  obtain ⟨t1, ht1⟩ : ∃ t, t = wit 5 1 (ts[1]'I1.out).k (ts[1]'I1.out).pr := ⟨_, rfl⟩
  rw [← ht1] at W1
  have TZ1 : t1.length ≤ 300000002 := by rw [ht1]; have := wit_len 5 1 (ts[1]'I1.out).k (ts[1]'I1.out).pr; have := L1.out; omega
  have HT1 := Lib.hid ht1
  clear ht1
  obtain ⟨fx0, hfx0⟩ : ∃ x, x = (ts[1]'I1.out).k := ⟨_, rfl⟩
  obtain ⟨fx1, hfx1⟩ : ∃ x, x = (ts[1]'I1.out).co := ⟨_, rfl⟩
  obtain ⟨fx2, hfx2⟩ : ∃ x, x = (ts[1]'I1.out).r := ⟨_, rfl⟩
  obtain ⟨fx3, hfx3⟩ : ∃ x, x = (ts[1]'I1.out).ad := ⟨_, rfl⟩
  obtain ⟨fx4, hfx4⟩ : ∃ x, x = (ts[1]'I1.out).va := ⟨_, rfl⟩
  rw [← hfx0] at f0
  rw [← hfx1] at f1
  rw [← hfx2] at f2
  rw [← hfx3] at f3
  rw [← hfx4] at f4
  rw [← hfx0, ← hfx1, ← hfx2, ← hfx3, ← hfx4] at W1
  have E := Lib.hid (show strL c.pr = strL t0 ++ ⟨#[32, 92, 47, 32]⟩ ++ strL t1 by rw [E.out I0.out I1.out, HT0.out, HT1.out])
  have tz0 : (strL t0).size = t0.length := strL_size _
  have tz1 : (strL t1).size = t1.length := strL_size _
  have u0 : ¬ 9223372036854775807 < (strL t0).size + 4 := by omega
  have u1 : ¬ 9223372036854775807 < (strL t0).size + 4 + (strL t1).size := by omega
  have W1 := Lib.hid (fun U k N hN => Calls.bt k (W1.out U k N hN))
  have SS := Lib.hid (fun (V : World) (k : Below x9.at.heap.size x9.at V) => (show V.cell? ⟨pC, 5, none⟩ = some (.slice (some a) 2 q) ∧ V.cell? a = some (.int .i64 ex0) ∧ V.cell? ⟨a.block, a.off + 1, none⟩ = some (.int .i64 ex1) ∧ V.cell? ⟨a.block, a.off + 2, none⟩ = some (.int .i64 ex2) ∧ V.cell? ⟨a.block, a.off + 3, none⟩ = some (.int .u64 ex3) ∧ V.cell? ⟨a.block, a.off + 4, none⟩ = some (.int .u64 ex4) ∧ V.cell? ⟨a.block, a.off + 5, none⟩ = some (.slice p2 n2 q2) ∧ V.cell? ⟨a.block, a.off + 6, none⟩ = some (.int .i64 fx0) ∧ V.cell? ⟨a.block, a.off + 6 + 1, none⟩ = some (.int .i64 fx1) ∧ V.cell? ⟨a.block, a.off + 6 + 2, none⟩ = some (.int .i64 fx2) ∧ V.cell? ⟨a.block, a.off + 6 + 3, none⟩ = some (.int .u64 fx3) ∧ V.cell? ⟨a.block, a.off + 6 + 4, none⟩ = some (.int .u64 fx4) ∧ V.cell? ⟨a.block, a.off + 6 + 5, none⟩ = some (.slice p3 n3 q3) from ⟨keep_below k _ _ (c_5 ⟨x9.at, Below.refl _ _⟩), keep_below k _ _ e0, keep_below k _ _ e1, keep_below k _ _ e2, keep_below k _ _ e3, keep_below k _ _ e4, keep_below k _ _ e5, keep_below k _ _ f0, keep_below k _ _ f1, keep_below k _ _ f2, keep_below k _ _ f3, keep_below k _ _ f4, keep_below k _ _ f5⟩))
  clear tz0 tz1 TZ0 TZ1 hn2 hl2 hn3 hl3 hex0 hex1 hex2 hex3 hex4 hfx0 hfx1 hfx2 hfx3 hfx4
  have c_0 := c_0 ⟨x9.at, Below.refl _ _⟩
  have c_1 := c_1 ⟨x9.at, Below.refl _ _⟩
  have c_2 := c_2 ⟨x9.at, Below.refl _ _⟩
  have c_3 := c_3 ⟨x9.at, Below.refl _ _⟩
  have c_4 := c_4 ⟨x9.at, Below.refl _ _⟩
  have c_5 := c_5 ⟨x9.at, Below.refl _ _⟩
  have X5 := Lib.hid (Below.refl x9.at.heap.size x9.at)
  have G5 := Lib.hid (Below.refl x9.at.heap.size x9.at)
  go_upto_region 14 with fail
  go_region_held3 (fun V => V.cell? ⟨pC, 5, none⟩ = some (.slice (some a) 2 q) ∧ V.cell? a = some (.int .i64 ex0) ∧ V.cell? ⟨a.block, a.off + 1, none⟩ = some (.int .i64 ex1) ∧ V.cell? ⟨a.block, a.off + 2, none⟩ = some (.int .i64 ex2) ∧ V.cell? ⟨a.block, a.off + 3, none⟩ = some (.int .u64 ex3) ∧ V.cell? ⟨a.block, a.off + 4, none⟩ = some (.int .u64 ex4) ∧ V.cell? ⟨a.block, a.off + 5, none⟩ = some (.slice p2 n2 q2) ∧ V.cell? ⟨a.block, a.off + 6, none⟩ = some (.int .i64 fx0) ∧ V.cell? ⟨a.block, a.off + 6 + 1, none⟩ = some (.int .i64 fx1) ∧ V.cell? ⟨a.block, a.off + 6 + 2, none⟩ = some (.int .i64 fx2) ∧ V.cell? ⟨a.block, a.off + 6 + 3, none⟩ = some (.int .u64 fx3) ∧ V.cell? ⟨a.block, a.off + 6 + 4, none⟩ = some (.int .u64 fx4) ∧ V.cell? ⟨a.block, a.off + 6 + 5, none⟩ = some (.slice p3 n3 q3))
    (first | (refine SS.out _ ?_; repeat' (first | (with_reducible exact Below.refl _ _) | (with_reducible exact X5.out) | (with_reducible refine KB.alloc ?_ _) | (with_reducible refine Below.drew ?_))))
    (first | (go_at_call 12; (with_reducible refine (Q0.out _ ?hk).mono ?_); (case hk => (repeat' (first | (with_reducible exact Below.refl _ _) | (with_reducible exact X5.out) | (with_reducible refine KB.alloc ?_ _) | (with_reducible refine Below.drew ?_)))); rintro e5 w5 ⟨rfl, g5, k5⟩; have G5 := Lib.hid g5; have X5 := Lib.hid k5; clear g5 k5) | (go_at_call 34; (with_reducible refine (W1.out _ ?hk _ ?hN).mono ?_); (case hk => (repeat' (first | (with_reducible exact Below.refl _ _) | (with_reducible exact X5.out) | (with_reducible refine KB.alloc ?_ _) | (with_reducible refine Below.drew ?_)))); (case hN => (((try with_reducible refine Row.drew ?_); (first | exact Row.new _ [.int .i64 5] _ | exact (Row.new _ [.int .i64 5] _).old _ | exact Row.new' _ [.int .i64 5] _ _ (by simp; done) | exact (Row.new' _ [.int .i64 5] _ _ (by simp; done)).old _ | exact (Row.new _ [.int .i64 5] _).below G5.out | exact ((Row.new _ [.int .i64 5] _).drew).below G5.out | exact (((Row.new _ [.int .i64 5] _).old _).drew).below G5.out | exact ((Row.new' _ [.int .i64 5] _ _ (by simp; done)).drew).below G5.out)))); rintro e5 w5 ⟨rfl, g5, k5⟩; have G5 := Lib.hid g5; have X5 := Lib.hid k5; clear g5 k5))
  all_goals
    go_wp2
    go_ret
    exact ⟨by rw [E.out]; rfl, KX.out.trans (X5.out.mono KX.out.size)⟩

theorem rprint_any : ∀ (N : Nat), ∀ (c : Cnd) (p : Option Addr) (n q : Nat) (w : World), c.cnt ≤ N → c.cnt ≤ 1000000 → c.ok → Rt c → n = c.args.length → LAt w c.args p 0 → Calls Tryd.prog 12 #[.agg #[.int .i64 c.k, .int .i64 c.co, .int .i64 c.r, .int .u64 c.ad, .int .u64 c.va, .slice p n q]] w fun e w' => e = .returned (.string (strL c.pr)) ∧ Below w.heap.size w w' := by
  intro N
  induction N with
  | zero => intro c p n q w hc; have := cnt_pos c; omega
  | succ N ih =>
    intro c p n q w hc hb ho hr hn hl
    cases hr with
    | reg co r ad va _ _ _ _ _ _ => exact rprint_reg _ p n q w hb ho hn hl rfl
    | cell co r ad va _ _ _ _ => exact rprint_cell _ p n q w hb ho hn hl rfl
    | flt co r ad va _ _ _ _ => exact rprint_flt _ p n q w hb ho hn hl rfl
    | tru co r ad va => exact rprint_true _ p n q w hb ho hn hl rfl
    | not co r ad va d hd => exact rprint_not _ p n q w hb ho hn hl N ih hc (fun t ht => (show t = d by simpa [Cnd.args] using ht) ▸ hd) rfl rfl
    | and co r ad va d f hd hf => exact rprint_and _ p n q w hb ho hn hl N ih hc (fun t ht => by rcases (show t = d ∨ t = f by simpa [Cnd.args] using ht) with rfl | rfl <;> assumption) rfl rfl
    | or co r ad va d f hd hf => exact rprint_or _ p n q w hb ho hn hl N ih hc (fun t ht => by rcases (show t = d ∨ t = f by simpa [Cnd.args] using ht) with rfl | rfl <;> assumption) rfl rfl
end Go.Proofs.YtgpngjgilcbigaaDoor
