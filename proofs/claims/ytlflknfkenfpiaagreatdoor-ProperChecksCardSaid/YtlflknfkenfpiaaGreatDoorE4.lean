/-
  Texts of one claim, merged.
-/
import Derived.Test.YtlflknfkenfpiaaGreatDoorE3
import Derived.Maps.OwnOps
import Derived.Maps.Views
set_option linter.unusedSimpArgs false
set_option linter.unusedVariables false
namespace GrN
def tabF (L : List Int) (j : Nat) : Int := match L[j]? with
  | some t => if baseB t = false ∨ 4294967296 ≤ t then 133 else if t ∈ L.take j then 132 else 0
  | none => 0
theorem tabF_at (L : List Int) (j : Nat) (hj : j < L.length) : tabF L j = if baseB L[j] = false ∨ 4294967296 ≤ L[j] then 133 else if L[j] ∈ L.take j then 132 else 0 := by
  unfold tabF
  rw [List.getElem?_eq_getElem hj]
end GrN
namespace Go.Proofs.YtlflknfkenfpiaaGreatDoor
open Go.RowKit GrN Go.Maps
def cellF (L : List (Int × Int)) (j : Nat) : Int := match L[j]? with
  | some c => if codeA c.1 ≠ 0 then codeA c.1 else if c.1 ∈ (L.take j).map Prod.fst then 130 else 0
  | none => 0
theorem cellF_at (L : List (Int × Int)) (j : Nat) (hj : j < L.length) : cellF L j = if codeA L[j].1 ≠ 0 then codeA L[j].1 else if L[j].1 ∈ (L.take j).map Prod.fst then 130 else 0 := by
  unfold cellF
  rw [List.getElem?_eq_getElem hj]
theorem seen_law : Keyed Tryz.prog 24 := int_keyed Tryz.underlying24
theorem zero_int (w : World) : (zeroValue 3).run Tryz.prog w = .ok (.int .i64 0) w := by kernel_rfl
def Seen (W : World) (b n : Nat) (S : List Int) : Prop := ∃ D : DataW Unit, W.ownsMap Tryz.prog 24 (plainElem Tryz.prog 3) b n D ∧ IsMap D ∧ ∀ a : Int, ∃ c : Int, D.atKey (.int .u64 a) (.lit (.int .i64 0)) = .lit (.int .i64 c) ∧ (0 < c ↔ a ∈ S) ∧ 0 ≤ c ∧ c ≤ 1000000
theorem seen_key {a : Int} (h0 : 0 ≤ a) (h1 : a < 18446744073709551616) : keyOf Tryz.prog 24 (.int .u64 a) = some (.int .u64 a) := keyOf_int_mk Tryz.underlying24 (WalkArith.wf_u64 ⟨h0, by omega⟩)
theorem seen_new (w : World) : Seen (w.alloc (.map #[] 0)) w.heap.size 0 [] := ⟨.map [], World.ownsMap_made _ _ _ _, ⟨[], rfl⟩, fun a => ⟨0, rfl, by simp, by omega, by omega⟩⟩
theorem isMap_put {D : DataW Unit} (h : IsMap D) {k : Lit} {d : DataW Unit} : IsMap (D.put k d) := by
  obtain ⟨es, rfl⟩ := h
  exact ⟨_, rfl⟩
theorem seen_step {D : DataW Unit} {S : List Int} {a : Int} (hm : IsMap D) (h : ∀ a : Int, ∃ c : Int, D.atKey (.int .u64 a) (.lit (.int .i64 0)) = .lit (.int .i64 c) ∧ (0 < c ↔ a ∈ S) ∧ 0 ≤ c ∧ c ≤ 1000000) :
    ∀ x : Int, ∃ c : Int, (D.put (.int .u64 a) (.lit (.int .i64 1))).atKey (.int .u64 x) (.lit (.int .i64 0)) = .lit (.int .i64 c) ∧ (0 < c ↔ x ∈ S ++ [a]) ∧ 0 ≤ c ∧ c ≤ 1000000 := fun x => by
  by_cases e : x = a
  · subst e
    exact ⟨1, by rw [atKey_put_same hm (show WideAt.IsKeyLit (.int .u64 x) from trivial)], by simp, by omega, by omega⟩
  · obtain ⟨c, h1, h2, h3⟩ := h x
    exact ⟨c, by rw [atKey_put_other (by intro q; cases q; exact e rfl)]; exact h1, by rw [h2]; simp [e], h3⟩
set_option maxRecDepth 100000 in
set_option maxHeartbeats 12800000 in
theorem ctables_any (L : List Int) (PL : List Int) (nm : ByteArray) (pc : Option Addr) (nc cc : Nat) (pk : Option Addr) (nk ck : Nat) (fa : Bool) (ck0 cco cr cad cva : Int) (pg : Option Addr) (ng cg : Nat) (pt : Option Addr) (nt ct : Nat) (qt : Option Addr) (lt dt : Nat) (qc : Option Addr) (lc dc : Nat) (qk : Option Addr) (lk dk : Nat) (qi : Option Addr) (li di : Nat) (qa : Int) (w : World) (hn : nt = L.length) (hm : nt ≤ 1000000) (hb : ∀ x ∈ L, 0 ≤ x ∧ x < 18446744073709551616) (hL : NAt .u64 w pt L) (hl : lt = PL.length) (hlm : lt ≤ maxLen) (hP : NAt .i64 w qt PL) :
    Calls Tryz.prog 12 #[.agg #[.string nm, .slice pc nc cc, .slice pk nk ck, .bool fa, .int .i64 ck0, .int .i64 cco, .int .i64 cr, .int .u64 cad, .int .u64 cva, .slice pg ng cg, .slice pt nt ct, .slice qt lt dt, .slice qc lc dc, .slice qk lk dk, .slice qi li di, .int .i64 qa]] w fun e w' => e = .returned (pbV (ans (firstF (tabF L) L.length) PL)) ∧ Below w.heap.size w w' := by
  have N := Lib.hid hn
  have HB := Lib.hid hb
  have XL := Lib.hid (fun (U : World) (b : Below w.heap.size w U) => hL.below b)
  have PC := Lib.hid (fun (U : World) (b : Below w.heap.size w U) (i : Nat) => place_any PL qt lt dt i U hl (hP.below b) hlm)
  have m9 : (nt : Int) ≤ 1000000 := by omega
  have m0 : (0 : Int) ≤ (nt : Int) := by omega
  clear hn hb hL hl hlm hP
  have hmm := @run_makeMap Tryz.prog
  clear hm
  go_enter Tryz.func12, Tryz.ntmps12
  go_upto_region 2 with fail
  have a1 : Row (((w.alloc (.cells #[.string nm, .slice pc nc cc, .slice pk nk ck, .bool fa, .int .i64 ck0, .int .i64 cco, .int .i64 cr, .int .u64 cad, .int .u64 cva, .slice pg ng cg, .slice pt nt ct, .slice qt lt dt, .slice qc lc dc, .slice qk lk dk, .slice qi li di, .int .i64 qa] 42)).alloc (.cells #[.int .i64 0, .int .i64 0] 39)).alloc (.map #[] 0)) w.heap.size [.string nm, .slice pc nc cc, .slice pk nk ck, .bool fa, .int .i64 ck0, .int .i64 cco, .int .i64 cr, .int .u64 cad, .int .u64 cva, .slice pg ng cg, .slice pt nt ct, .slice qt lt dt, .slice qc lc dc, .slice qk lk dk, .slice qi li di, .int .i64 qa] 42 := ((Row.new _ [.string nm, .slice pc nc cc, .slice pk nk ck, .bool fa, .int .i64 ck0, .int .i64 cco, .int .i64 cr, .int .u64 cad, .int .u64 cva, .slice pg ng cg, .slice pt nt ct, .slice qt lt dt, .slice qc lc dc, .slice qk lk dk, .slice qi li di, .int .i64 qa] _).old _).old _
  have a2 : Row (((w.alloc (.cells #[.string nm, .slice pc nc cc, .slice pk nk ck, .bool fa, .int .i64 ck0, .int .i64 cco, .int .i64 cr, .int .u64 cad, .int .u64 cva, .slice pg ng cg, .slice pt nt ct, .slice qt lt dt, .slice qc lc dc, .slice qk lk dk, .slice qi li di, .int .i64 qa] 42)).alloc (.cells #[.int .i64 0, .int .i64 0] 39)).alloc (.map #[] 0)) (w.heap.size + 1) [.int .i64 0, .int .i64 0] 39 := (Row.new' _ [.int .i64 0, .int .i64 0] _ _ (by simp)).old _
  have a3 : Seen (((w.alloc (.cells #[.string nm, .slice pc nc cc, .slice pk nk ck, .bool fa, .int .i64 ck0, .int .i64 cco, .int .i64 cr, .int .u64 cad, .int .u64 cva, .slice pg ng cg, .slice pt nt ct, .slice qt lt dt, .slice qc lc dc, .slice qk lk dk, .slice qi li di, .int .i64 qa] 42)).alloc (.cells #[.int .i64 0, .int .i64 0] 39)).alloc (.map #[] 0)) (w.heap.size + 2) 0 [] := by
    have := seen_new ((w.alloc (.cells #[.string nm, .slice pc nc cc, .slice pk nk ck, .bool fa, .int .i64 ck0, .int .i64 cco, .int .i64 cr, .int .u64 cad, .int .u64 cva, .slice pg ng cg, .slice pt nt ct, .slice qt lt dt, .slice qc lc dc, .slice qk lk dk, .slice qi li di, .int .i64 qa] 42)).alloc (.cells #[.int .i64 0, .int .i64 0] 39))
    simpa using this
  have a4 : Below w.heap.size w (((w.alloc (.cells #[.string nm, .slice pc nc cc, .slice pk nk ck, .bool fa, .int .i64 ck0, .int .i64 cco, .int .i64 cr, .int .u64 cad, .int .u64 cva, .slice pg ng cg, .slice pt nt ct, .slice qt lt dt, .slice qc lc dc, .slice qk lk dk, .slice qi li di, .int .i64 qa] 42)).alloc (.cells #[.int .i64 0, .int .i64 0] 39)).alloc (.map #[] 0)) := KB.alloc (KB.alloc (KB.alloc (Below.refl w.heap.size w) _) _) _
  obtain ⟨V, hV⟩ : ∃ V, V = ((w.alloc (.cells #[.string nm, .slice pc nc cc, .slice pk nk ck, .bool fa, .int .i64 ck0, .int .i64 cco, .int .i64 cr, .int .u64 cad, .int .u64 cva, .slice pg ng cg, .slice pt nt ct, .slice qt lt dt, .slice qc lc dc, .slice qk lk dk, .slice qi li di, .int .i64 qa] 42)).alloc (.cells #[.int .i64 0, .int .i64 0] 39)).alloc (.map #[] 0) := ⟨_, rfl⟩
  rw [← hV] at a1 a2 a3 a4
  try simp only [← hV]
  obtain ⟨pS, hpS⟩ : ∃ b, b = w.heap.size := ⟨_, rfl⟩
  have PS := Lib.hid (show w.heap.size ≤ pS by omega)
  have PA := Lib.hid (show w.heap.size ≤ pS + 1 by omega)
  have PM := Lib.hid (show w.heap.size ≤ pS + 2 by omega)
  rw [← hpS] at a1 a2 a3
  try simp only [← hpS]
  clear hpS hV
  have A1 := Lib.hid a1
  have A2 := Lib.hid a2
  have A3 := Lib.hid a3
  have A4 := Lib.hid a4
  have s_n := a1.cell 10
  simp only [List.getElem?_cons_zero, List.getElem?_cons_succ] at s_n
  clear a1 a2 a3 a4
  go_wp2_with fail
  clear s_n
  go_loopw [11] (fun iv wr => ∃ (i : Nat), i ≤ nt ∧ iv = .int .i64 (i : Int) ∧ (∀ j, j < i → tabF L j = 0) ∧ Below w.heap.size w wr ∧ Row wr pS [.string nm, .slice pc nc cc, .slice pk nk ck, .bool fa, .int .i64 ck0, .int .i64 cco, .int .i64 cr, .int .u64 cad, .int .u64 cva, .slice pg ng cg, .slice pt nt ct, .slice qt lt dt, .slice qc lc dc, .slice qk lk dk, .slice qi li di, .int .i64 qa] 42 ∧ Row wr (pS + 1) [.int .i64 0, .int .i64 0] 39 ∧ Seen wr (pS + 2) i (L.take i)) (fun iv _ => nt - (intOf iv).toNat)
  case atStart => exact ⟨0, by omega, rfl, fun j h2 => by omega, A4.out, A1.out, A2.out, A3.out⟩
  case round =>
    obtain ⟨i, hi, rfl, hall, hbel, hrS, hrP, D, hown, hmap, hsp⟩ := hrel
    have HA := Lib.hid hall
    have BE := Lib.hid hbel
    have RS := Lib.hid hrS
    have RP := Lib.hid hrP
    have SP := Lib.hid hsp
    have OW := Lib.hid hown
    have IM := Lib.hid hmap
    clear hall hbel hrS hrP hsp hown hmap A1 A2 A3 A4
    have i0 : (0 : Int) ≤ (i : Int) := by omega
    by_cases ci : i < nt
    · have l1 : i < L.length := by have := N.out; omega
      obtain ⟨a, epp, c0⟩ := XL.out wr BE.out i l1
      have IL := Lib.hid (show i + 1 ≤ nt by omega)
      have iB := Lib.hid (show i ≤ 1000000 by omega)
      have g1 : (i : Int) < (nt : Int) := by omega
      have TF := Lib.hid (tabF_at L i l1)
      have BD := HB.out _ (List.getElem_mem l1)
      have TK := Lib.hid (take_succ' L i l1)
      obtain ⟨t0, hx⟩ : ∃ x, x = L[i]'l1 := ⟨_, rfl⟩
      rw [← hx] at c0 TF BD TK
      obtain ⟨b0, b1⟩ := BD
      have KEY := Lib.hid (seen_key b0 b1)
      have e0 : ∀ y : Wb wr, y.at.cell? (a.add i) = some (.int .u64 t0) := fun y => keep_below y.bel _ _ c0
      have s_n := RS.out.cell 10
      have s_q := RS.out.cell 11
      have p_0 := fun y : Wb wr => (RP.out.at y).cell 0
      have p_1 := fun y : Wb wr => (RP.out.at y).cell 1
      have p_f := fun (y : Wb wr) (k : Nat) => (RP.out.at y).free k
      simp only [List.getElem?_cons_zero, List.getElem?_cons_succ] at s_n s_q p_0 p_1
      have PC1 := Lib.hid (PC.out wr BE.out i)
      obtain ⟨pv, hpv⟩ : ∃ k, k = plc PL i := ⟨_, rfl⟩
      rw [← hpv] at PC1
      have W1 : IntKind.i64.wrap ((i : Int) + 1) = (i : Int) + 1 := IntWalk.i64_in _ ⟨by omega, by omega⟩
      subst epp
      clear hx hi
      have BA := Lib.hid (fun U => base_any t0 U b0 b1)
      cases cb : baseB t0 with
      | false =>
        rw [cb] at BA
        have FV := Lib.hid (show tabF L i = 133 by rw [TF.out]; rw [if_pos (.inl cb)])
        have R := Lib.hid (show (ans (firstF (tabF L) L.length) PL) = (133, pv) by rw [first_some (i := i) l1 HA.out (by rw [FV.out]; decide), FV.out, hpv]; rfl)
        have E := Lib.hid (show pbV (pbS 133 pv) = .agg #[.int .i64 133, .int .i64 pv] by simp [pbV, pbS])
        have PB := Lib.hid (show ∀ U, Calls Tryz.prog 14 #[.int .i64 133, .int .i64 pv] U fun x w' => x = .returned (.agg #[.int .i64 133, .int .i64 pv]) ∧ Below U.heap.size U w' from fun U => E.out ▸ problem_any 133 pv U)
        clear E hpv ci l1 cb
        go_wp2_with fail
        refine PC1.out.mono ?_
        rintro e w3 ⟨rfl, rfl⟩
        go_wp2_with fail
        refine (BA.out _).mono ?_
        rintro e w5 ⟨rfl, rfl⟩
        go_wp2_with fail
        refine (PB.out _).mono ?_
        rintro e w4 ⟨rfl, b⟩
        obtain ⟨y4, rfl⟩ := Wb.start b
        clear b
        go_wp2
        refine bodyPost_ret (v := .agg #[.int .i64 133, .int .i64 pv]) (by simp [results, Tryz.results12, go_sem, *]) rfl ⟨by rw [R.out]; rfl, ?_⟩
        repeat' (first | (with_reducible exact BE.out.trans (y4.bel.mono BE.out.size)) | (with_reducible refine Below.setCell ?_ ?_ _) | (with_reducible exact PA.out))
      | true =>
        rw [cb] at BA
        by_cases g2 : (4294967296 : Int) ≤ t0
        · have FV := Lib.hid (show tabF L i = 133 by rw [TF.out]; rw [if_pos (.inr g2)])
          have R := Lib.hid (show (ans (firstF (tabF L) L.length) PL) = (133, pv) by rw [first_some (i := i) l1 HA.out (by rw [FV.out]; decide), FV.out, hpv]; rfl)
          have E := Lib.hid (show pbV (pbS 133 pv) = .agg #[.int .i64 133, .int .i64 pv] by simp [pbV, pbS])
          have PB := Lib.hid (show ∀ U, Calls Tryz.prog 14 #[.int .i64 133, .int .i64 pv] U fun x w' => x = .returned (.agg #[.int .i64 133, .int .i64 pv]) ∧ Below U.heap.size U w' from fun U => E.out ▸ problem_any 133 pv U)
          clear E hpv ci l1 cb
          go_wp2_with fail
          refine PC1.out.mono ?_
          rintro e w3 ⟨rfl, rfl⟩
          go_wp2_with fail
          refine (BA.out _).mono ?_
          rintro e w5 ⟨rfl, rfl⟩
          go_wp2_with fail
          refine (PB.out _).mono ?_
          rintro e w4 ⟨rfl, b⟩
          obtain ⟨y4, rfl⟩ := Wb.start b
          clear b
          go_wp2
          refine bodyPost_ret (v := .agg #[.int .i64 133, .int .i64 pv]) (by simp [results, Tryz.results12, go_sem, *]) rfl ⟨by rw [R.out]; rfl, ?_⟩
          repeat' (first | (with_reducible exact BE.out.trans (y4.bel.mono BE.out.size)) | (with_reducible refine Below.setCell ?_ ?_ _) | (with_reducible exact PA.out))
        obtain ⟨cn, hc1, hc2, hc3, hc4⟩ := SP.out t0
        have CE := Lib.hid (show ∀ c : Int, D.atKey (.int .u64 t0) (.lit (.int .i64 0)) = .lit (.int .i64 c) → cn = c from fun c h => by rw [hc1] at h; cases h; rfl)
        have TF2 := Lib.hid (show tabF L i = if t0 ∈ L.take i then 132 else 0 by rw [TF.out, if_neg (by simp [cb]; omega)])
        clear TF hc1
        have TF := TF2
        by_cases g3 : 0 < cn
        · have FV := Lib.hid (show tabF L i = 132 by rw [TF.out]; rw [if_pos (hc2.1 g3)])
          have R := Lib.hid (show (ans (firstF (tabF L) L.length) PL) = (132, pv) by rw [first_some (i := i) l1 HA.out (by rw [FV.out]; decide), FV.out, hpv]; rfl)
          have E := Lib.hid (show pbV (pbS 132 pv) = .agg #[.int .i64 132, .int .i64 pv] by simp [pbV, pbS])
          have PB := Lib.hid (show ∀ U, Calls Tryz.prog 14 #[.int .i64 132, .int .i64 pv] U fun x w' => x = .returned (.agg #[.int .i64 132, .int .i64 pv]) ∧ Below U.heap.size U w' from fun U => E.out ▸ problem_any 132 pv U)
          clear E hpv ci l1 cb hc2 hc3 hc4
          go_wp2_with fail
          refine PC1.out.mono ?_
          rintro e w3 ⟨rfl, rfl⟩
          go_wp2_with fail
          refine (BA.out _).mono ?_
          rintro e w5 ⟨rfl, rfl⟩
          go_wp2_with (first | (at_lookup; refine wpList_lookup_own_int _ rfl _ _ 76 rfl 24 3 .i64 seen_law Tryz.underlying76 Tryz.underlying3 (zero_int _) (pS + 2) i D rfl OW.out _ _ rfl KEY.out ?_; intro c hat hwc; obtain rfl := CE.out c hat; clear hat hwc) | fail)
          refine (PB.out _).mono ?_
          rintro e w4 ⟨rfl, b⟩
          obtain ⟨y4, rfl⟩ := Wb.start b
          clear b
          go_wp2
          refine bodyPost_ret (v := .agg #[.int .i64 132, .int .i64 pv]) (by simp [results, Tryz.results12, go_sem, *]) rfl ⟨by rw [R.out]; rfl, ?_⟩
          repeat' (first | (with_reducible exact BE.out.trans (y4.bel.mono BE.out.size)) | (with_reducible refine Below.setCell ?_ ?_ _) | (with_reducible exact PA.out))
        have FV := Lib.hid (show tabF L i = 0 by rw [TF.out, if_neg (fun q => g3 (hc2.2 q))])
        obtain rfl : cn = 0 := by omega
        have NX := Lib.hid (show ∀ j, j < i + 1 → tabF L j = 0 from fun j h2 => by
          by_cases ej : j = i
          · subst ej; exact FV.out
          · exact HA.out j (by omega))
        clear hc2 hc3 hc4 g3 cb ci l1 hpv
        go_wp2_with fail
        refine PC1.out.mono ?_
        rintro e w3 ⟨rfl, rfl⟩
        go_wp2_with fail
        refine (BA.out _).mono ?_
        rintro e w5 ⟨rfl, rfl⟩
        go_wp2_with (first | (at_lookup; refine wpList_lookup_own_int _ rfl _ _ 76 rfl 24 3 .i64 seen_law Tryz.underlying76 Tryz.underlying3 (zero_int _) (pS + 2) i D rfl OW.out _ _ rfl KEY.out ?_; intro c hat hwc; obtain rfl := CE.out c hat; clear hat hwc) | (at_mapUpdate; refine wpList_mapUpdate_own _ rfl _ _ _ 76 rfl 24 3 seen_law Tryz.underlying76 _ (pS + 2) i D rfl OW.out (by have := iB.out; unfold maxLen; omega) _ _ _ rfl rfl KEY.out (.lit (.int .i64 1)) [] (plainElem_int Tryz.underlying3 (by decide)) ?_; intro w1 hown1 hgrow1) | fail)
        go_roundw
        case rel => exact ⟨i + 1, IL.out, by go_num, NX.out, BE.out.grown hgrow1 BE.out.size (fun j hj => by cases hj; exact PM.out), (hgrow1.block pS RS.out.lt (by simp)).trans RS.out, (hgrow1.block (pS + 1) RP.out.lt (by simp)).trans RP.out, _, hown1, isMap_put IM.out, by rw [TK.out]; exact seen_step IM.out SP.out⟩
        case measure => have := IL.out; simp [intOf] <;> omega
    · have g1 : ¬ (i : Int) < (nt : Int) := by omega
      have R := Lib.hid (show (ans (firstF (tabF L) L.length) PL) = (0, 0) by rw [first_none fun j hj => HA.out j (by have := N.out; omega)]; rfl)
      have p_0 := RP.out.cell 0
      have p_1 := RP.out.cell 1
      have p_f := fun (k : Nat) => RP.out.free k
      simp only [List.getElem?_cons_zero, List.getElem?_cons_succ] at p_0 p_1
      clear ci hi
      go_wp2
      refine bodyPost_ret (v := .agg #[.int .i64 0, .int .i64 0]) (by simp [results, Tryz.results12, go_sem, *]) rfl ⟨by rw [R.out]; rfl, ?_⟩
      repeat' (first | (with_reducible exact BE.out) | (with_reducible refine Below.setCell ?_ ?_ _) | (with_reducible exact PA.out))
end Go.Proofs.YtlflknfkenfpiaaGreatDoor
namespace Go.Proofs.YtlflknfkenfpiaaGreatDoor
open Go.RowKit GrN Go.Maps
def DsAt (W : World) (p : Option Addr) (L : List (Int × Int)) : Prop := ∀ j (h : j < L.length), ∃ a, p = some a ∧ W.cell? (a.add (j * 2)) = some (.int .u64 (L[j]'h).1) ∧ W.cell? ⟨(a.add (j * 2)).block, (a.add (j * 2)).off + 1, none⟩ = some (.int .u64 (L[j]'h).2)
def cellsA (L : List (Int × Int)) (PL : List Int) : Int × Int := if 192 < L.length then (2, plc PL 192) else ans (firstF (cellF L) L.length) PL
theorem DsAt.below {W U : World} {p : Option Addr} {L : List (Int × Int)} (h : DsAt W p L) (b : Below W.heap.size W U) : DsAt U p L := fun j hj => by
  obtain ⟨a, e, c0, c1⟩ := h j hj
  exact ⟨a, e, keep_below b _ _ c0, keep_below b _ _ c1⟩
set_option maxRecDepth 100000 in
set_option maxHeartbeats 12800000 in
theorem ccells_any (L : List (Int × Int)) (PL : List Int) (nm : ByteArray) (pc : Option Addr) (nc cc : Nat) (pk : Option Addr) (nk ck : Nat) (fa : Bool) (ck0 cco cr cad cva : Int) (pg : Option Addr) (ng cg : Nat) (pt : Option Addr) (nt ct : Nat) (qt : Option Addr) (lt dt : Nat) (qc : Option Addr) (lc dc : Nat) (qk : Option Addr) (lk dk : Nat) (qi : Option Addr) (li di : Nat) (qa : Int) (w : World) (hn : nc = L.length) (hm : nc ≤ 1000000) (hb : ∀ x ∈ L, 0 ≤ x.1 ∧ x.1 < 18446744073709551616) (hL : DsAt w pc L) (hl : lc = PL.length) (hlm : lc ≤ maxLen) (hP : NAt .i64 w qc PL) :
    Calls Tryz.prog 13 #[.agg #[.string nm, .slice pc nc cc, .slice pk nk ck, .bool fa, .int .i64 ck0, .int .i64 cco, .int .i64 cr, .int .u64 cad, .int .u64 cva, .slice pg ng cg, .slice pt nt ct, .slice qt lt dt, .slice qc lc dc, .slice qk lk dk, .slice qi li di, .int .i64 qa]] w fun e w' => e = .returned (pbV (cellsA L PL)) ∧ Below w.heap.size w w' := by
  have N := Lib.hid hn
  have HB := Lib.hid hb
  have XL := Lib.hid (fun (U : World) (b : Below w.heap.size w U) => hL.below b)
  have PC := Lib.hid (fun (U : World) (b : Below w.heap.size w U) (i : Nat) => place_any PL qc lc dc i U hl (hP.below b) hlm)
  have m9 : (nc : Int) ≤ 1000000 := by omega
  have m0 : (0 : Int) ≤ (nc : Int) := by omega
  clear hn hb hL hl hlm hP
  by_cases hg : 192 < nc
  · have g0 : (192 : Int) < (nc : Int) := by omega
    have E := Lib.hid (show pbV (pbS 2 (plc PL 192)) = .agg #[.int .i64 2, .int .i64 (plc PL 192)] by simp [pbV, pbS])
    have PB := Lib.hid (show ∀ U, Calls Tryz.prog 14 #[.int .i64 2, .int .i64 (plc PL 192)] U fun x w' => x = .returned (.agg #[.int .i64 2, .int .i64 (plc PL 192)]) ∧ Below U.heap.size U w' from fun U => E.out ▸ problem_any 2 (plc PL 192) U)
    have PC := Lib.hid (show ∀ (U : World), Below w.heap.size w U → Calls Tryz.prog 15 #[.slice qc lc dc, .int .i64 192] U fun e w' => e = .returned (.int .i64 (plc PL 192)) ∧ U = w' from fun U b => PC.out U b 192)
    obtain ⟨pv, hpv⟩ : ∃ k, k = plc PL 192 := ⟨_, rfl⟩
    rw [← hpv] at PB PC
    have R := Lib.hid (show (cellsA L PL) = (2, pv) by rw [cellsA, if_pos (by rw [← N.out]; exact hg), hpv])
    have HP := Lib.hid hpv
    clear hpv E hg hm
    go_enter Tryz.func13, Tryz.ntmps13
    go_upto_region 1 with fail
    refine to_cls ?_
    intro U0 hU0 y0
    have r_s : ∀ z : Wb U0, Row z.at w.heap.size [.string nm, .slice pc nc cc, .slice pk nk ck, .bool fa, .int .i64 ck0, .int .i64 cco, .int .i64 cr, .int .u64 cad, .int .u64 cva, .slice pg ng cg, .slice pt nt ct, .slice qt lt dt, .slice qc lc dc, .slice qk lk dk, .slice qi li di, .int .i64 qa] 42 := Row.next ((Row.new _ [.string nm, .slice pc nc cc, .slice pk nk ck, .bool fa, .int .i64 ck0, .int .i64 cco, .int .i64 cr, .int .u64 cad, .int .u64 cva, .slice pg ng cg, .slice pt nt ct, .slice qt lt dt, .slice qc lc dc, .slice qk lk dk, .slice qi li di, .int .i64 qa] _).old _) hU0
    have r_p : ∀ z : Wb U0, Row z.at (w.heap.size + 1) [.int .i64 0, .int .i64 0] 39 := Row.next (Row.new' _ [.int .i64 0, .int .i64 0] _ _ (by simp)) hU0
    have KK := Lib.hid (KB.next (KB.alloc (KB.alloc (Below.refl w.heap.size w) _) _) hU0)
    clear hU0
    have s_1 := fun z : Wb U0 => (r_s z).cell 1
    have s_12 := fun z : Wb U0 => (r_s z).cell 12
    have c_0 := fun z : Wb U0 => (r_p z).cell 0
    have c_1 := fun z : Wb U0 => (r_p z).cell 1
    have c_f := fun (z : Wb U0) (i : Nat) => (r_p z).free i
    simp only [List.getElem?_cons_zero, List.getElem?_cons_succ] at s_1 s_12 c_0 c_1
    clear r_s r_p
    obtain ⟨pS, hpS⟩ : ∃ b, b = w.heap.size := ⟨_, rfl⟩
    have PS := Lib.hid (show w.heap.size ≤ pS by omega)
    have PA := Lib.hid (show w.heap.size ≤ pS + 1 by omega)
    rw [← hpS] at s_1 s_12 c_0 c_1 c_f
    simp only [← hpS]
    clear hpS
    go_wp2_with fail
    refine (PC.out _ (KK.out _)).mono ?_
    rintro e w3 ⟨rfl, rfl⟩
    go_wp2_with fail
    refine (PB.out _).mono ?_
    rintro e w4 ⟨rfl, b⟩
    obtain ⟨y4, rfl⟩ := Wb.next b
    clear b
    go_wp2
    refine bodyPost_ret (v := .agg #[.int .i64 2, .int .i64 pv]) (by simp [results, Tryz.results13, go_sem, *]) rfl ⟨by rw [R.out]; rfl, ?_⟩
    repeat' (first | (with_reducible exact KK.out _) | (with_reducible refine Below.setCell ?_ ?_ _) | (with_reducible exact PA.out))
  have g0 : ¬ (192 : Int) < (nc : Int) := by omega
  have R0 := Lib.hid (show (cellsA L PL) = ans (firstF (cellF L) L.length) PL by rw [cellsA, if_neg (by rw [← N.out]; exact hg)])
  clear hg
  have hmm := @run_makeMap Tryz.prog
  clear hm
  go_enter Tryz.func13, Tryz.ntmps13
  go_upto_region 4 with fail
  have a1 : Row (((w.alloc (.cells #[.string nm, .slice pc nc cc, .slice pk nk ck, .bool fa, .int .i64 ck0, .int .i64 cco, .int .i64 cr, .int .u64 cad, .int .u64 cva, .slice pg ng cg, .slice pt nt ct, .slice qt lt dt, .slice qc lc dc, .slice qk lk dk, .slice qi li di, .int .i64 qa] 42)).alloc (.cells #[.int .i64 0, .int .i64 0] 39)).alloc (.map #[] 0)) w.heap.size [.string nm, .slice pc nc cc, .slice pk nk ck, .bool fa, .int .i64 ck0, .int .i64 cco, .int .i64 cr, .int .u64 cad, .int .u64 cva, .slice pg ng cg, .slice pt nt ct, .slice qt lt dt, .slice qc lc dc, .slice qk lk dk, .slice qi li di, .int .i64 qa] 42 := ((Row.new _ [.string nm, .slice pc nc cc, .slice pk nk ck, .bool fa, .int .i64 ck0, .int .i64 cco, .int .i64 cr, .int .u64 cad, .int .u64 cva, .slice pg ng cg, .slice pt nt ct, .slice qt lt dt, .slice qc lc dc, .slice qk lk dk, .slice qi li di, .int .i64 qa] _).old _).old _
  have a2 : Row (((w.alloc (.cells #[.string nm, .slice pc nc cc, .slice pk nk ck, .bool fa, .int .i64 ck0, .int .i64 cco, .int .i64 cr, .int .u64 cad, .int .u64 cva, .slice pg ng cg, .slice pt nt ct, .slice qt lt dt, .slice qc lc dc, .slice qk lk dk, .slice qi li di, .int .i64 qa] 42)).alloc (.cells #[.int .i64 0, .int .i64 0] 39)).alloc (.map #[] 0)) (w.heap.size + 1) [.int .i64 0, .int .i64 0] 39 := (Row.new' _ [.int .i64 0, .int .i64 0] _ _ (by simp)).old _
  have a3 : Seen (((w.alloc (.cells #[.string nm, .slice pc nc cc, .slice pk nk ck, .bool fa, .int .i64 ck0, .int .i64 cco, .int .i64 cr, .int .u64 cad, .int .u64 cva, .slice pg ng cg, .slice pt nt ct, .slice qt lt dt, .slice qc lc dc, .slice qk lk dk, .slice qi li di, .int .i64 qa] 42)).alloc (.cells #[.int .i64 0, .int .i64 0] 39)).alloc (.map #[] 0)) (w.heap.size + 2) 0 [] := by
    have := seen_new ((w.alloc (.cells #[.string nm, .slice pc nc cc, .slice pk nk ck, .bool fa, .int .i64 ck0, .int .i64 cco, .int .i64 cr, .int .u64 cad, .int .u64 cva, .slice pg ng cg, .slice pt nt ct, .slice qt lt dt, .slice qc lc dc, .slice qk lk dk, .slice qi li di, .int .i64 qa] 42)).alloc (.cells #[.int .i64 0, .int .i64 0] 39))
    simpa using this
  have a4 : Below w.heap.size w (((w.alloc (.cells #[.string nm, .slice pc nc cc, .slice pk nk ck, .bool fa, .int .i64 ck0, .int .i64 cco, .int .i64 cr, .int .u64 cad, .int .u64 cva, .slice pg ng cg, .slice pt nt ct, .slice qt lt dt, .slice qc lc dc, .slice qk lk dk, .slice qi li di, .int .i64 qa] 42)).alloc (.cells #[.int .i64 0, .int .i64 0] 39)).alloc (.map #[] 0)) := KB.alloc (KB.alloc (KB.alloc (Below.refl w.heap.size w) _) _) _
  obtain ⟨V, hV⟩ : ∃ V, V = ((w.alloc (.cells #[.string nm, .slice pc nc cc, .slice pk nk ck, .bool fa, .int .i64 ck0, .int .i64 cco, .int .i64 cr, .int .u64 cad, .int .u64 cva, .slice pg ng cg, .slice pt nt ct, .slice qt lt dt, .slice qc lc dc, .slice qk lk dk, .slice qi li di, .int .i64 qa] 42)).alloc (.cells #[.int .i64 0, .int .i64 0] 39)).alloc (.map #[] 0) := ⟨_, rfl⟩
  rw [← hV] at a1 a2 a3 a4
  try simp only [← hV]
  obtain ⟨pS, hpS⟩ : ∃ b, b = w.heap.size := ⟨_, rfl⟩
  have PS := Lib.hid (show w.heap.size ≤ pS by omega)
  have PA := Lib.hid (show w.heap.size ≤ pS + 1 by omega)
  have PM := Lib.hid (show w.heap.size ≤ pS + 2 by omega)
  rw [← hpS] at a1 a2 a3
  try simp only [← hpS]
  clear hpS hV
  have A1 := Lib.hid a1
  have A2 := Lib.hid a2
  have A3 := Lib.hid a3
  have A4 := Lib.hid a4
  have s_n := a1.cell 1
  simp only [List.getElem?_cons_zero, List.getElem?_cons_succ] at s_n
  clear a1 a2 a3 a4
  go_wp2_with fail
  clear s_n
  go_loopw [23] (fun iv wr => ∃ (i : Nat), i ≤ nc ∧ iv = .int .i64 (i : Int) ∧ (∀ j, j < i → cellF L j = 0) ∧ Below w.heap.size w wr ∧ Row wr pS [.string nm, .slice pc nc cc, .slice pk nk ck, .bool fa, .int .i64 ck0, .int .i64 cco, .int .i64 cr, .int .u64 cad, .int .u64 cva, .slice pg ng cg, .slice pt nt ct, .slice qt lt dt, .slice qc lc dc, .slice qk lk dk, .slice qi li di, .int .i64 qa] 42 ∧ Row wr (pS + 1) [.int .i64 0, .int .i64 0] 39 ∧ Seen wr (pS + 2) i ((L.take i).map Prod.fst)) (fun iv _ => nc - (intOf iv).toNat)
  case atStart => exact ⟨0, by omega, rfl, fun j h2 => by omega, A4.out, A1.out, A2.out, A3.out⟩
  case round =>
    obtain ⟨i, hi, rfl, hall, hbel, hrS, hrP, D, hown, hmap, hsp⟩ := hrel
    have HA := Lib.hid hall
    have BE := Lib.hid hbel
    have RS := Lib.hid hrS
    have RP := Lib.hid hrP
    have SP := Lib.hid hsp
    have OW := Lib.hid hown
    have IM := Lib.hid hmap
    clear hall hbel hrS hrP hsp hown hmap A1 A2 A3 A4
    have i0 : (0 : Int) ≤ (i : Int) := by omega
    by_cases ci : i < nc
    · have l1 : i < L.length := by have := N.out; omega
      obtain ⟨a, epp, c0, c1⟩ := XL.out wr BE.out i l1
      have IL := Lib.hid (show i + 1 ≤ nc by omega)
      have iB := Lib.hid (show i ≤ 1000000 by omega)
      have g1 : (i : Int) < (nc : Int) := by omega
      have TF := Lib.hid (cellF_at L i l1)
      have BD := HB.out _ (List.getElem_mem l1)
      have TK := Lib.hid (take_succ' L i l1)
      obtain ⟨x, hx⟩ : ∃ x, x = L[i]'l1 := ⟨_, rfl⟩
      rw [← hx] at c0 c1 TF BD TK
      obtain ⟨t0, t1⟩ := x
      simp only at c0 c1 TF BD
      obtain ⟨b0, b1⟩ := BD
      have KEY := Lib.hid (seen_key b0 b1)
      have s_n := RS.out.cell 1
      have s_q := RS.out.cell 12
      simp only [List.getElem?_cons_zero, List.getElem?_cons_succ] at s_n s_q
      have PC1 := Lib.hid (fun (U : World) (b : Below wr.heap.size wr U) => PC.out U (BE.out.trans (b.mono BE.out.size)) i)
      obtain ⟨pv, hpv⟩ : ∃ k, k = plc PL i := ⟨_, rfl⟩
      rw [← hpv] at PC1
      have W1 : IntKind.i64.wrap ((i : Int) + 1) = (i : Int) + 1 := IntWalk.i64_in _ ⟨by omega, by omega⟩
      subst epp
      clear hx hi
      have CA := Lib.hid (fun U => check_any t0 U b0 b1)
      obtain ⟨v, hv⟩ : ∃ v, v = codeA t0 := ⟨_, rfl⟩
      rw [← hv] at CA TF
      go_upto_region 7 with fail
      refine to_cls ?_
      intro U1 hU1 y1
      have r_x : ∀ q : Wb U1, Row q.at wr.heap.size [.int .u64 t0, .int .u64 t1] 61 := Row.next (Row.new _ [.int .u64 t0, .int .u64 t1] _) hU1
      have K1 := Lib.hid (fun q : Wb U1 => ((KB.alloc (Below.refl wr.heap.size wr) _).trans ((hU1.mono (by simp)).trans (q.bel.mono (Nat.le_trans (by simp) hU1.size)))))
      have d0 := fun q : Wb U1 => (r_x q).cell 0
      have d1 := fun q : Wb U1 => (r_x q).cell 1
      simp only [List.getElem?_cons_zero, List.getElem?_cons_succ] at d0 d1
      clear r_x hU1
      have s_n := fun q : Wb U1 => (RS.out.below (K1.out q)).cell 1
      have s_q := fun q : Wb U1 => (RS.out.below (K1.out q)).cell 12
      have p_0 := fun q : Wb U1 => (RP.out.below (K1.out q)).cell 0
      have p_1 := fun q : Wb U1 => (RP.out.below (K1.out q)).cell 1
      have p_f := fun (q : Wb U1) (k : Nat) => (RP.out.below (K1.out q)).free k
      simp only [List.getElem?_cons_zero, List.getElem?_cons_succ] at s_n s_q p_0 p_1
      have PC2 := Lib.hid (fun q : Wb U1 => PC1.out q.at (K1.out q))
      have BQ := Lib.hid (fun q : Wb U1 => BE.out.trans ((K1.out q).mono BE.out.size))
      have OQ := Lib.hid (show ∀ q : Wb U1, q.at.ownsMap Tryz.prog 24 (plainElem Tryz.prog 3) (pS + 2) i D from fun q => by
        obtain ⟨es, clock, hb, F, hs, hD⟩ := OW.out
        exact ⟨es, clock, ((K1.out q).block _ (Array.getElem?_eq_some_iff.1 hb).1).trans hb, F, hs, hD⟩)
      have RSq := Lib.hid (fun q : Wb U1 => RS.out.below (K1.out q))
      have RPq := Lib.hid (fun q : Wb U1 => RP.out.below (K1.out q))
      clear c0 c1
      obtain ⟨pX, hpX⟩ : ∃ b, b = wr.heap.size := ⟨_, rfl⟩
      rw [← hpX] at d0 d1
      simp only [← hpX]
      clear hpX
      have PC1 := PC2
      clear PC2
      by_cases ev : v = 0
      · subst ev
        have TF2 := Lib.hid (show cellF L i = if t0 ∈ (L.take i).map Prod.fst then 130 else 0 by rw [TF.out, if_neg (by simp)])
        clear TF
        have TF := TF2
        obtain ⟨cn, hc1, hc2, hc3, hc4⟩ := SP.out t0
        have CE := Lib.hid (show ∀ c : Int, D.atKey (.int .u64 t0) (.lit (.int .i64 0)) = .lit (.int .i64 c) → cn = c from fun c h => by rw [hc1] at h; cases h; rfl)
        clear hc1
        by_cases g3 : 0 < cn
        · have FV := Lib.hid (show cellF L i = 130 by rw [TF.out]; rw [if_pos (hc2.1 g3)])
          have R := Lib.hid (show (cellsA L PL) = (130, pv) by rw [R0.out, first_some (i := i) l1 HA.out (by rw [FV.out]; decide), FV.out, hpv]; rfl)
          have E := Lib.hid (show pbV (pbS 130 pv) = .agg #[.int .i64 130, .int .i64 pv] by simp [pbV, pbS])
          have PB := Lib.hid (show ∀ U, Calls Tryz.prog 14 #[.int .i64 130, .int .i64 pv] U fun x w' => x = .returned (.agg #[.int .i64 130, .int .i64 pv]) ∧ Below U.heap.size U w' from fun U => E.out ▸ problem_any 130 pv U)
          clear E hpv ci l1 hc2 hc3 hc4 hv
          go_wp2_with fail
          refine (PC1.out _).mono ?_
          rintro e w3 ⟨rfl, rfl⟩
          go_wp2_with fail
          refine (CA.out _).mono ?_
          rintro e w5 ⟨rfl, rfl⟩
          go_wp2_with (first | (at_lookup; refine wpList_lookup_own_int _ rfl _ _ 76 rfl 24 3 .i64 seen_law Tryz.underlying76 Tryz.underlying3 (zero_int _) (pS + 2) i D rfl (OQ.out _) _ _ rfl KEY.out ?_; intro c hat hwc; obtain rfl := CE.out c hat; clear hat hwc) | fail)
          refine (PB.out _).mono ?_
          rintro e w4 ⟨rfl, b⟩
          obtain ⟨y4, rfl⟩ := Wb.next b
          clear b
          go_wp2
          refine bodyPost_ret (v := .agg #[.int .i64 130, .int .i64 pv]) (by simp [results, Tryz.results13, go_sem, *]) rfl ⟨by rw [R.out]; rfl, ?_⟩
          repeat' (first | (with_reducible exact BQ.out _) | (with_reducible refine Below.setCell ?_ ?_ _) | (with_reducible exact PA.out))
        have FV := Lib.hid (show cellF L i = 0 by rw [TF.out, if_neg (fun q => g3 (hc2.2 q))])
        obtain rfl : cn = 0 := by omega
        have NX := Lib.hid (show ∀ j, j < i + 1 → cellF L j = 0 from fun j h2 => by
          by_cases ej : j = i
          · subst ej; exact FV.out
          · exact HA.out j (by omega))
        clear hc2 hc3 hc4 g3 ci l1 hpv hv
        go_wp2_with fail
        refine (PC1.out _).mono ?_
        rintro e w3 ⟨rfl, rfl⟩
        go_wp2_with fail
        refine (CA.out _).mono ?_
        rintro e w5 ⟨rfl, rfl⟩
        go_wp2_with (first | (at_lookup; refine wpList_lookup_own_int _ rfl _ _ 76 rfl 24 3 .i64 seen_law Tryz.underlying76 Tryz.underlying3 (zero_int _) (pS + 2) i D rfl (OQ.out _) _ _ rfl KEY.out ?_; intro c hat hwc; obtain rfl := CE.out c hat; clear hat hwc) | (at_mapUpdate; refine wpList_mapUpdate_own _ rfl _ _ _ 76 rfl 24 3 seen_law Tryz.underlying76 _ (pS + 2) i D rfl (OQ.out _) (by have := iB.out; unfold maxLen; omega) _ _ _ rfl rfl KEY.out (.lit (.int .i64 1)) [] (plainElem_int Tryz.underlying3 (by decide)) ?_; intro w1 hown1 hgrow1) | fail)
        go_roundw
        case rel => exact ⟨i + 1, IL.out, by go_num, NX.out, (BQ.out _).grown hgrow1 (BQ.out _).size (fun j hj => by cases hj; exact PM.out), (hgrow1.block pS (RSq.out _).lt (by simp)).trans (RSq.out _), (hgrow1.block (pS + 1) (RPq.out _).lt (by simp)).trans (RPq.out _), _, hown1, isMap_put IM.out, by rw [TK.out, List.map_append]; exact seen_step IM.out SP.out⟩
        case measure => have := IL.out; simp [intOf] <;> omega
      · have FV := Lib.hid (show cellF L i = v by rw [TF.out]; rw [if_pos ev])
        have R := Lib.hid (show (cellsA L PL) = (v, pv) by rw [R0.out, first_some (i := i) l1 HA.out (by rw [FV.out]; exact ev), FV.out, hpv]; rfl)
        have E := Lib.hid (show pbV (pbS v pv) = .agg #[.int .i64 v, .int .i64 pv] by simp [pbV, pbS, ev])
        have PB := Lib.hid (show ∀ U, Calls Tryz.prog 14 #[.int .i64 v, .int .i64 pv] U fun x w' => x = .returned (.agg #[.int .i64 v, .int .i64 pv]) ∧ Below U.heap.size U w' from fun U => E.out ▸ problem_any v pv U)
        clear E hpv ci l1 hv
        have nz : (v != 0) = true := by simpa using ev
        go_wp2_with fail
        refine (PC1.out _).mono ?_
        rintro e w3 ⟨rfl, rfl⟩
        go_wp2_with fail
        refine (CA.out _).mono ?_
        rintro e w5 ⟨rfl, rfl⟩
        go_wp2_with fail
        refine (PB.out _).mono ?_
        rintro e w4 ⟨rfl, b⟩
        obtain ⟨y4, rfl⟩ := Wb.next b
        clear b
        go_wp2
        refine bodyPost_ret (v := .agg #[.int .i64 v, .int .i64 pv]) (by simp [results, Tryz.results13, go_sem, *]) rfl ⟨by rw [R.out]; rfl, ?_⟩
        repeat' (first | (with_reducible exact BQ.out _) | (with_reducible refine Below.setCell ?_ ?_ _) | (with_reducible exact PA.out))
    · have g1 : ¬ (i : Int) < (nc : Int) := by omega
      have R := Lib.hid (show (cellsA L PL) = (0, 0) by rw [R0.out, first_none fun j hj => HA.out j (by have := N.out; omega)]; rfl)
      have p_0 := RP.out.cell 0
      have p_1 := RP.out.cell 1
      have p_f := fun (k : Nat) => RP.out.free k
      simp only [List.getElem?_cons_zero, List.getElem?_cons_succ] at p_0 p_1
      clear ci hi
      go_wp2
      refine bodyPost_ret (v := .agg #[.int .i64 0, .int .i64 0]) (by simp [results, Tryz.results13, go_sem, *]) rfl ⟨by rw [R.out]; rfl, ?_⟩
      repeat' (first | (with_reducible exact BE.out) | (with_reducible refine Below.setCell ?_ ?_ _) | (with_reducible exact PA.out))
end Go.Proofs.YtlflknfkenfpiaaGreatDoor
