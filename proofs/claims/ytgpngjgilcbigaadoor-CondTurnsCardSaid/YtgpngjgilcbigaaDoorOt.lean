/-
  Layer 11, the walks: the code's Print.
-/
import Derived.Test.YtgpngjgilcbigaaDoorOs
set_option linter.unusedSimpArgs false
set_option linter.unusedVariables false
namespace Go.Proofs.YtgpngjgilcbigaaDoor
open Go.RowKit GrP GrL GrC
open GrA (itoa_len64)
theorem hexI_any (v : Int) (w : World) (h0 : 0 ≤ v) (h1 : v < 18446744073709551616) (ht : TB w) : Calls Tryd.prog 27 #[.int .u64 v] w fun e w' => e = .returned (.string (strL (hexT v))) ∧ Below w.heap.size w w' := by
  have := hex_any v.toNat w (by omega) ht
  rw [Int.toNat_of_nonneg h0] at this
  exact this

set_option maxRecDepth 100000 in
set_option maxHeartbeats 6400000 in
theorem print_reg (c : Cnd) (p : Option Addr) (n q : Nat) (w : World) (hb : c.cnt ≤ 1000000) (ho : c.ok) (hn : n = c.args.length) (hl : LAt w c.args p 0) (ht : TB w) (h : c.k = 1) : Calls Tryd.prog 11 #[.agg #[.int .i64 c.k, .int .i64 c.co, .int .i64 c.r, .int .u64 c.ad, .int .u64 c.va, .slice p n q]] w fun e w' => e = .returned (.string (strL c.pr)) ∧ Below w.heap.size w w' := by
  obtain ⟨o1, o2, o3, o4, _⟩ := ok_parts ho
  have h0 := h
  have FR := Lib.hid (fun (U : World) (k : Below w.heap.size w U) => reg_any c.r U (ht.below k) o2.1 o2.2)
  obtain ⟨sR, hsR⟩ : ∃ s, s = strL (GrA.reg c.r) := ⟨_, rfl⟩
  have zR : sR.size ≤ 65 := by rw [hsR, strL_size]; exact GrA.reg_len c.r
  rw [← hsR] at FR
  have SR := Lib.hid hsR
  obtain ⟨sI, hsI⟩ : ∃ s, s = intS c.co := ⟨_, rfl⟩
  obtain ⟨sV, hsV⟩ : ∃ s, s = strL (hexT c.va) := ⟨_, rfl⟩
  have FI := Lib.hid (fun (U : World) (k : Below w.heap.size w U) => int_any c.co U o1.1 o1.2 (ht.below k))
  have FV := Lib.hid (fun (U : World) (k : Below w.heap.size w U) => hexI_any c.va U o4.1 o4.2 (ht.below k))
  have zI : sI.size ≤ 65 := by rw [hsI, intS, strL_size]; exact itoa_len64 o1.1 o1.2
  have zV : sV.size ≤ 66 := by rw [hsV, strL_size]; exact hexT_len o4.1 o4.2
  rw [← hsI] at FI
  rw [← hsV] at FV
  have SI := Lib.hid hsI
  have SV := Lib.hid hsV
  obtain ⟨kk, hkk⟩ : ∃ k, k = c.k := ⟨_, rfl⟩
  obtain ⟨co, hcc⟩ : ∃ k, k = c.co := ⟨_, rfl⟩
  obtain ⟨rr, hrr⟩ : ∃ k, k = c.r := ⟨_, rfl⟩
  obtain ⟨aa, haa⟩ : ∃ k, k = c.ad := ⟨_, rfl⟩
  obtain ⟨vv, hvv⟩ : ∃ k, k = c.va := ⟨_, rfl⟩
  obtain ⟨ts, hts⟩ : ∃ ts, ts = c.args := ⟨_, rfl⟩
  rw [← hcc] at FI
  rw [← hvv] at FV
  rw [← hrr] at FR
  have E := Lib.hid (show strL c.pr = sI ++ ⟨#[58]⟩ ++ sR ++ (⟨#[61]⟩ ++ sV) by
    rw [pr_leaf (.inl h0), leafT, if_pos h0, SI.out, SR.out, SV.out, intS, show (⟨#[58]⟩ : ByteArray) = strL [58] from rfl, show (⟨#[61]⟩ : ByteArray) = strL [61] from rfl, strL_app, strL_app, strL_app, strL_app]
    rfl)
  have Z := Lib.hid (show sI.size ≤ 65 ∧ sV.size ≤ 66 ∧ sR.size ≤ 65 from ⟨zI, zV, zR⟩)
  clear hsR zR
  have KE := Lib.hid (show kk = 1 from hkk.trans h0)
  clear h h0
  rw [← hts] at hn hl
  rw [← hkk, ← hcc, ← hrr, ← haa, ← hvv]
  have HN := Lib.hid hn
  have s1 : ¬ 9223372036854775807 < 1 + sV.size := by omega
  clear hsI hsV ho ht o1 o2 o3 o4 hts hn hkk hcc hrr haa hvv
  go_enter Tryd.func11, Tryd.ntmps11
  go_upto_region 1 with fail
  refine to_cls ?_
  intro U0 hU0 y0
  have r_c : ∀ z : Wb U0, Row z.at w.heap.size [.int .i64 kk, .int .i64 co, .int .i64 rr, .int .u64 aa, .int .u64 vv, .slice p n q] 25 := Row.next (Row.new _ [.int .i64 kk, .int .i64 co, .int .i64 rr, .int .u64 aa, .int .u64 vv, .slice p n q] _) hU0
  have KK := Lib.hid (KB.next (KB.alloc (Below.refl w.heap.size w) _) hU0)
  clear hU0
  have c_0 := fun z : Wb U0 => (r_c z).cell 0
  have c_1 := fun z : Wb U0 => (r_c z).cell 1
  have c_2 := fun z : Wb U0 => (r_c z).cell 2
  have c_3 := fun z : Wb U0 => (r_c z).cell 3
  have c_4 := fun z : Wb U0 => (r_c z).cell 4
  have c_5 := fun z : Wb U0 => (r_c z).cell 5
  simp only [List.getElem?_cons_zero, List.getElem?_cons_succ] at c_0 c_1 c_2 c_3 c_4 c_5
  have LU := Lib.hid (fun z : Wb U0 => hl.below (KK.out z))
  clear r_c
  obtain ⟨pC, hpC⟩ : ∃ b, b = w.heap.size := ⟨_, rfl⟩
  rw [← hpC] at c_0 c_1 c_2 c_3 c_4 c_5
  simp only [← hpC]
  clear hpC hl

  have C0 := Lib.hid (fun z : Wb U0 => KK.out z)
  have c_0 := y0.lift c_0
  have c_1 := y0.lift c_1
  have c_2 := y0.lift c_2
  have c_3 := y0.lift c_3
  have c_4 := y0.lift c_4
  have c_5 := y0.lift c_5
  have LY := Lib.hid (LU.out y0)
  have KY := Lib.hid (KK.out y0)
  have F1 := Lib.hid (fun z : Wb y0.at => FI.out z.at (KY.out.trans (z.bel.mono KY.out.size)))
  have F2 := Lib.hid (fun z : Wb y0.at => FV.out z.at (KY.out.trans (z.bel.mono KY.out.size)))
  clear KK LU C0 FI FV
  refine wp_region_wb (by kernel_rfl) (by kernel_rfl) ?_
  repeat (go_big_quiet_step (first | (go_at_call 26; exact Calls.wb (F1.out _)) | (go_at_call 27; exact Calls.wb (F2.out _))))
  refine wpQuiet_nil ?_
  rintro _ ⟨x9, rfl⟩
  clear F1 F2 zI zV s1
  have c_0 := c_0 x9
  have c_1 := c_1 x9
  have c_2 := c_2 x9
  have c_3 := c_3 x9
  have c_4 := c_4 x9
  have c_5 := c_5 x9
  have LX := Lib.hid (LY.out.below x9.bel)
  have KX := Lib.hid (KY.out.trans (x9.bel.mono KY.out.size))
  clear LY KY
  obtain rfl := KE.out
  clear KE
  obtain ⟨q1, q2, q3⟩ := Z.out
  have u0 : ¬ 9223372036854775807 < sI.size + 1 := by omega
  have u1 : ¬ 9223372036854775807 < sI.size + 1 + sR.size := by omega
  have u2 : ¬ 9223372036854775807 < sI.size + 1 + sR.size + (1 + sV.size) := by omega
  clear q1 q2 q3
  go_wp2_with (go_at_call 28; refine (FR.out _ KX.out).mono ?_; rintro e w9 ⟨rfl, g⟩; have G9 := Lib.hid g; clear g)
  go_ret
  exact ⟨by rw [E.out]; rfl, KX.out.trans (G9.out.mono KX.out.size)⟩

set_option maxRecDepth 100000 in
set_option maxHeartbeats 6400000 in
theorem print_cell (c : Cnd) (p : Option Addr) (n q : Nat) (w : World) (hb : c.cnt ≤ 1000000) (ho : c.ok) (hn : n = c.args.length) (hl : LAt w c.args p 0) (ht : TB w) (h : c.k = 2) : Calls Tryd.prog 11 #[.agg #[.int .i64 c.k, .int .i64 c.co, .int .i64 c.r, .int .u64 c.ad, .int .u64 c.va, .slice p n q]] w fun e w' => e = .returned (.string (strL c.pr)) ∧ Below w.heap.size w w' := by
  obtain ⟨o1, o2, o3, o4, _⟩ := ok_parts ho
  have h0 := h
  have FA := Lib.hid (fun (U : World) (k : Below w.heap.size w U) => hexI_any c.ad U o3.1 o3.2 (ht.below k))
  obtain ⟨sA, hsA⟩ : ∃ s, s = strL (hexT c.ad) := ⟨_, rfl⟩
  have zA : sA.size ≤ 66 := by rw [hsA, strL_size]; exact hexT_len o3.1 o3.2
  rw [← hsA] at FA
  have SA := Lib.hid hsA
  obtain ⟨sI, hsI⟩ : ∃ s, s = intS c.co := ⟨_, rfl⟩
  obtain ⟨sV, hsV⟩ : ∃ s, s = strL (hexT c.va) := ⟨_, rfl⟩
  have FI := Lib.hid (fun (U : World) (k : Below w.heap.size w U) => int_any c.co U o1.1 o1.2 (ht.below k))
  have FV := Lib.hid (fun (U : World) (k : Below w.heap.size w U) => hexI_any c.va U o4.1 o4.2 (ht.below k))
  have zI : sI.size ≤ 65 := by rw [hsI, intS, strL_size]; exact itoa_len64 o1.1 o1.2
  have zV : sV.size ≤ 66 := by rw [hsV, strL_size]; exact hexT_len o4.1 o4.2
  rw [← hsI] at FI
  rw [← hsV] at FV
  have SI := Lib.hid hsI
  have SV := Lib.hid hsV
  obtain ⟨kk, hkk⟩ : ∃ k, k = c.k := ⟨_, rfl⟩
  obtain ⟨co, hcc⟩ : ∃ k, k = c.co := ⟨_, rfl⟩
  obtain ⟨rr, hrr⟩ : ∃ k, k = c.r := ⟨_, rfl⟩
  obtain ⟨aa, haa⟩ : ∃ k, k = c.ad := ⟨_, rfl⟩
  obtain ⟨vv, hvv⟩ : ∃ k, k = c.va := ⟨_, rfl⟩
  obtain ⟨ts, hts⟩ : ∃ ts, ts = c.args := ⟨_, rfl⟩
  rw [← hcc] at FI
  rw [← hvv] at FV
  rw [← haa] at FA
  have E := Lib.hid (show strL c.pr = ⟨#[91]⟩ ++ sA ++ ⟨#[93]⟩ ++ (⟨#[61]⟩ ++ sV) by
    rw [pr_leaf (.inr (.inl h0)), leafT, if_neg (by omega), if_pos h0, SA.out, SV.out, show (⟨#[91]⟩ : ByteArray) = strL [91] from rfl, show (⟨#[93]⟩ : ByteArray) = strL [93] from rfl, show (⟨#[61]⟩ : ByteArray) = strL [61] from rfl, strL_app, strL_app, strL_app, strL_app]
    rfl)
  have Z := Lib.hid (show sI.size ≤ 65 ∧ sV.size ≤ 66 ∧ sA.size ≤ 66 from ⟨zI, zV, zA⟩)
  have KE := Lib.hid (show kk = 2 from hkk.trans h0)
  clear hsA zA h h0
  rw [← hts] at hn hl
  rw [← hkk, ← hcc, ← hrr, ← haa, ← hvv]
  have HN := Lib.hid hn
  have s1 : ¬ 9223372036854775807 < 1 + sV.size := by omega
  clear hsI hsV ho ht o1 o2 o3 o4 hts hn hkk hcc hrr haa hvv
  go_enter Tryd.func11, Tryd.ntmps11
  go_upto_region 1 with fail
  refine to_cls ?_
  intro U0 hU0 y0
  have r_c : ∀ z : Wb U0, Row z.at w.heap.size [.int .i64 kk, .int .i64 co, .int .i64 rr, .int .u64 aa, .int .u64 vv, .slice p n q] 25 := Row.next (Row.new _ [.int .i64 kk, .int .i64 co, .int .i64 rr, .int .u64 aa, .int .u64 vv, .slice p n q] _) hU0
  have KK := Lib.hid (KB.next (KB.alloc (Below.refl w.heap.size w) _) hU0)
  clear hU0
  have c_0 := fun z : Wb U0 => (r_c z).cell 0
  have c_1 := fun z : Wb U0 => (r_c z).cell 1
  have c_2 := fun z : Wb U0 => (r_c z).cell 2
  have c_3 := fun z : Wb U0 => (r_c z).cell 3
  have c_4 := fun z : Wb U0 => (r_c z).cell 4
  have c_5 := fun z : Wb U0 => (r_c z).cell 5
  simp only [List.getElem?_cons_zero, List.getElem?_cons_succ] at c_0 c_1 c_2 c_3 c_4 c_5
  have LU := Lib.hid (fun z : Wb U0 => hl.below (KK.out z))
  clear r_c
  obtain ⟨pC, hpC⟩ : ∃ b, b = w.heap.size := ⟨_, rfl⟩
  rw [← hpC] at c_0 c_1 c_2 c_3 c_4 c_5
  simp only [← hpC]
  clear hpC hl

  have C0 := Lib.hid (fun z : Wb U0 => KK.out z)
  have c_0 := y0.lift c_0
  have c_1 := y0.lift c_1
  have c_2 := y0.lift c_2
  have c_3 := y0.lift c_3
  have c_4 := y0.lift c_4
  have c_5 := y0.lift c_5
  have LY := Lib.hid (LU.out y0)
  have KY := Lib.hid (KK.out y0)
  have F1 := Lib.hid (fun z : Wb y0.at => FI.out z.at (KY.out.trans (z.bel.mono KY.out.size)))
  have F2 := Lib.hid (fun z : Wb y0.at => FV.out z.at (KY.out.trans (z.bel.mono KY.out.size)))
  clear KK LU C0 FI FV
  refine wp_region_wb (by kernel_rfl) (by kernel_rfl) ?_
  repeat (go_big_quiet_step (first | (go_at_call 26; exact Calls.wb (F1.out _)) | (go_at_call 27; exact Calls.wb (F2.out _))))
  refine wpQuiet_nil ?_
  rintro _ ⟨x9, rfl⟩
  clear F1 F2 zI zV s1
  have c_0 := c_0 x9
  have c_1 := c_1 x9
  have c_2 := c_2 x9
  have c_3 := c_3 x9
  have c_4 := c_4 x9
  have c_5 := c_5 x9
  have LX := Lib.hid (LY.out.below x9.bel)
  have KX := Lib.hid (KY.out.trans (x9.bel.mono KY.out.size))
  clear LY KY
  obtain rfl := KE.out
  clear KE
  obtain ⟨q1, q2, q3⟩ := Z.out
  have u0 : ¬ 9223372036854775807 < 1 + sA.size := by omega
  have u1 : ¬ 9223372036854775807 < 1 + sA.size + 1 := by omega
  have u2 : ¬ 9223372036854775807 < 1 + sA.size + 1 + (1 + sV.size) := by omega
  clear q1 q2 q3
  go_wp2_with (go_at_call 27; refine (FA.out _ KX.out).mono ?_; rintro e w9 ⟨rfl, g⟩; have G9 := Lib.hid g; clear g)
  go_ret
  exact ⟨by rw [E.out]; rfl, KX.out.trans (G9.out.mono KX.out.size)⟩

set_option maxRecDepth 100000 in
set_option maxHeartbeats 6400000 in
theorem print_flt (c : Cnd) (p : Option Addr) (n q : Nat) (w : World) (hb : c.cnt ≤ 1000000) (ho : c.ok) (hn : n = c.args.length) (hl : LAt w c.args p 0) (ht : TB w) (h : c.k = 3) : Calls Tryd.prog 11 #[.agg #[.int .i64 c.k, .int .i64 c.co, .int .i64 c.r, .int .u64 c.ad, .int .u64 c.va, .slice p n q]] w fun e w' => e = .returned (.string (strL c.pr)) ∧ Below w.heap.size w w' := by
  obtain ⟨o1, o2, o3, o4, _⟩ := ok_parts ho
  have h0 := h
  obtain ⟨sI, hsI⟩ : ∃ s, s = intS c.co := ⟨_, rfl⟩
  obtain ⟨sV, hsV⟩ : ∃ s, s = strL (hexT c.va) := ⟨_, rfl⟩
  have FI := Lib.hid (fun (U : World) (k : Below w.heap.size w U) => int_any c.co U o1.1 o1.2 (ht.below k))
  have FV := Lib.hid (fun (U : World) (k : Below w.heap.size w U) => hexI_any c.va U o4.1 o4.2 (ht.below k))
  have zI : sI.size ≤ 65 := by rw [hsI, intS, strL_size]; exact itoa_len64 o1.1 o1.2
  have zV : sV.size ≤ 66 := by rw [hsV, strL_size]; exact hexT_len o4.1 o4.2
  rw [← hsI] at FI
  rw [← hsV] at FV
  have SI := Lib.hid hsI
  have SV := Lib.hid hsV
  obtain ⟨kk, hkk⟩ : ∃ k, k = c.k := ⟨_, rfl⟩
  obtain ⟨co, hcc⟩ : ∃ k, k = c.co := ⟨_, rfl⟩
  obtain ⟨rr, hrr⟩ : ∃ k, k = c.r := ⟨_, rfl⟩
  obtain ⟨aa, haa⟩ : ∃ k, k = c.ad := ⟨_, rfl⟩
  obtain ⟨vv, hvv⟩ : ∃ k, k = c.va := ⟨_, rfl⟩
  obtain ⟨ts, hts⟩ : ∃ ts, ts = c.args := ⟨_, rfl⟩
  rw [← hcc] at FI
  rw [← hvv] at FV
  have E := Lib.hid (show strL c.pr = ⟨#[102, 97, 117, 108, 116, 115, 32]⟩ ++ sI ++ (⟨#[61]⟩ ++ sV) by
    rw [pr_leaf (.inr (.inr (.inl h0))), leafT, if_neg (by omega), if_neg (by omega), if_pos h0, SI.out, SV.out, intS, show (⟨#[102, 97, 117, 108, 116, 115, 32]⟩ : ByteArray) = strL [102, 97, 117, 108, 116, 115, 32] from rfl, show (⟨#[61]⟩ : ByteArray) = strL [61] from rfl, strL_app, strL_app, strL_app]
    rfl)
  have Z := Lib.hid (show sI.size ≤ 65 ∧ sV.size ≤ 66 from ⟨zI, zV⟩)
  have KE := Lib.hid (show kk = 3 from hkk.trans h0)
  clear h h0
  rw [← hts] at hn hl
  rw [← hkk, ← hcc, ← hrr, ← haa, ← hvv]
  have HN := Lib.hid hn
  have s1 : ¬ 9223372036854775807 < 1 + sV.size := by omega
  clear hsI hsV ho ht o1 o2 o3 o4 hts hn hkk hcc hrr haa hvv
  go_enter Tryd.func11, Tryd.ntmps11
  go_upto_region 1 with fail
  refine to_cls ?_
  intro U0 hU0 y0
  have r_c : ∀ z : Wb U0, Row z.at w.heap.size [.int .i64 kk, .int .i64 co, .int .i64 rr, .int .u64 aa, .int .u64 vv, .slice p n q] 25 := Row.next (Row.new _ [.int .i64 kk, .int .i64 co, .int .i64 rr, .int .u64 aa, .int .u64 vv, .slice p n q] _) hU0
  have KK := Lib.hid (KB.next (KB.alloc (Below.refl w.heap.size w) _) hU0)
  clear hU0
  have c_0 := fun z : Wb U0 => (r_c z).cell 0
  have c_1 := fun z : Wb U0 => (r_c z).cell 1
  have c_2 := fun z : Wb U0 => (r_c z).cell 2
  have c_3 := fun z : Wb U0 => (r_c z).cell 3
  have c_4 := fun z : Wb U0 => (r_c z).cell 4
  have c_5 := fun z : Wb U0 => (r_c z).cell 5
  simp only [List.getElem?_cons_zero, List.getElem?_cons_succ] at c_0 c_1 c_2 c_3 c_4 c_5
  have LU := Lib.hid (fun z : Wb U0 => hl.below (KK.out z))
  clear r_c
  obtain ⟨pC, hpC⟩ : ∃ b, b = w.heap.size := ⟨_, rfl⟩
  rw [← hpC] at c_0 c_1 c_2 c_3 c_4 c_5
  simp only [← hpC]
  clear hpC hl

  have C0 := Lib.hid (fun z : Wb U0 => KK.out z)
  have c_0 := y0.lift c_0
  have c_1 := y0.lift c_1
  have c_2 := y0.lift c_2
  have c_3 := y0.lift c_3
  have c_4 := y0.lift c_4
  have c_5 := y0.lift c_5
  have LY := Lib.hid (LU.out y0)
  have KY := Lib.hid (KK.out y0)
  have F1 := Lib.hid (fun z : Wb y0.at => FI.out z.at (KY.out.trans (z.bel.mono KY.out.size)))
  have F2 := Lib.hid (fun z : Wb y0.at => FV.out z.at (KY.out.trans (z.bel.mono KY.out.size)))
  clear KK LU C0 FI FV
  refine wp_region_wb (by kernel_rfl) (by kernel_rfl) ?_
  repeat (go_big_quiet_step (first | (go_at_call 26; exact Calls.wb (F1.out _)) | (go_at_call 27; exact Calls.wb (F2.out _))))
  refine wpQuiet_nil ?_
  rintro _ ⟨x9, rfl⟩
  clear F1 F2 zI zV s1
  have c_0 := c_0 x9
  have c_1 := c_1 x9
  have c_2 := c_2 x9
  have c_3 := c_3 x9
  have c_4 := c_4 x9
  have c_5 := c_5 x9
  have LX := Lib.hid (LY.out.below x9.bel)
  have KX := Lib.hid (KY.out.trans (x9.bel.mono KY.out.size))
  clear LY KY
  obtain rfl := KE.out
  clear KE
  obtain ⟨q1, q2⟩ := Z.out
  have u0 : ¬ 9223372036854775807 < 7 + sI.size := by omega
  have u1 : ¬ 9223372036854775807 < 7 + sI.size + (1 + sV.size) := by omega
  clear q1 q2
  go_wp2
  go_ret
  exact ⟨by rw [E.out]; rfl, KX.out⟩

set_option maxRecDepth 100000 in
set_option maxHeartbeats 6400000 in
theorem print_true (c : Cnd) (p : Option Addr) (n q : Nat) (w : World) (hb : c.cnt ≤ 1000000) (ho : c.ok) (hn : n = c.args.length) (hl : LAt w c.args p 0) (ht : TB w) (h : c.k = 7) : Calls Tryd.prog 11 #[.agg #[.int .i64 c.k, .int .i64 c.co, .int .i64 c.r, .int .u64 c.ad, .int .u64 c.va, .slice p n q]] w fun e w' => e = .returned (.string (strL c.pr)) ∧ Below w.heap.size w w' := by
  obtain ⟨o1, o2, o3, o4, _⟩ := ok_parts ho
  have h0 := h
  obtain ⟨sI, hsI⟩ : ∃ s, s = intS c.co := ⟨_, rfl⟩
  obtain ⟨sV, hsV⟩ : ∃ s, s = strL (hexT c.va) := ⟨_, rfl⟩
  have FI := Lib.hid (fun (U : World) (k : Below w.heap.size w U) => int_any c.co U o1.1 o1.2 (ht.below k))
  have FV := Lib.hid (fun (U : World) (k : Below w.heap.size w U) => hexI_any c.va U o4.1 o4.2 (ht.below k))
  have zI : sI.size ≤ 65 := by rw [hsI, intS, strL_size]; exact itoa_len64 o1.1 o1.2
  have zV : sV.size ≤ 66 := by rw [hsV, strL_size]; exact hexT_len o4.1 o4.2
  rw [← hsI] at FI
  rw [← hsV] at FV
  have SI := Lib.hid hsI
  have SV := Lib.hid hsV
  obtain ⟨kk, hkk⟩ : ∃ k, k = c.k := ⟨_, rfl⟩
  obtain ⟨co, hcc⟩ : ∃ k, k = c.co := ⟨_, rfl⟩
  obtain ⟨rr, hrr⟩ : ∃ k, k = c.r := ⟨_, rfl⟩
  obtain ⟨aa, haa⟩ : ∃ k, k = c.ad := ⟨_, rfl⟩
  obtain ⟨vv, hvv⟩ : ∃ k, k = c.va := ⟨_, rfl⟩
  obtain ⟨ts, hts⟩ : ∃ ts, ts = c.args := ⟨_, rfl⟩
  rw [← hcc] at FI
  rw [← hvv] at FV
  have E := Lib.hid (show strL c.pr = ⟨#[116, 114, 117, 101]⟩ by
    rw [pr_leaf (.inr (.inr (.inr h0))), leafT, if_neg (by omega), if_neg (by omega), if_neg (by omega)]
    rfl)
  have KE := Lib.hid (show kk = 7 from hkk.trans h0)
  clear h h0
  rw [← hts] at hn hl
  rw [← hkk, ← hcc, ← hrr, ← haa, ← hvv]
  have HN := Lib.hid hn
  have s1 : ¬ 9223372036854775807 < 1 + sV.size := by omega
  clear hsI hsV ho ht o1 o2 o3 o4 hts hn hkk hcc hrr haa hvv
  go_enter Tryd.func11, Tryd.ntmps11
  go_upto_region 1 with fail
  refine to_cls ?_
  intro U0 hU0 y0
  have r_c : ∀ z : Wb U0, Row z.at w.heap.size [.int .i64 kk, .int .i64 co, .int .i64 rr, .int .u64 aa, .int .u64 vv, .slice p n q] 25 := Row.next (Row.new _ [.int .i64 kk, .int .i64 co, .int .i64 rr, .int .u64 aa, .int .u64 vv, .slice p n q] _) hU0
  have KK := Lib.hid (KB.next (KB.alloc (Below.refl w.heap.size w) _) hU0)
  clear hU0
  have c_0 := fun z : Wb U0 => (r_c z).cell 0
  have c_1 := fun z : Wb U0 => (r_c z).cell 1
  have c_2 := fun z : Wb U0 => (r_c z).cell 2
  have c_3 := fun z : Wb U0 => (r_c z).cell 3
  have c_4 := fun z : Wb U0 => (r_c z).cell 4
  have c_5 := fun z : Wb U0 => (r_c z).cell 5
  simp only [List.getElem?_cons_zero, List.getElem?_cons_succ] at c_0 c_1 c_2 c_3 c_4 c_5
  have LU := Lib.hid (fun z : Wb U0 => hl.below (KK.out z))
  clear r_c
  obtain ⟨pC, hpC⟩ : ∃ b, b = w.heap.size := ⟨_, rfl⟩
  rw [← hpC] at c_0 c_1 c_2 c_3 c_4 c_5
  simp only [← hpC]
  clear hpC hl

  have C0 := Lib.hid (fun z : Wb U0 => KK.out z)
  have c_0 := y0.lift c_0
  have c_1 := y0.lift c_1
  have c_2 := y0.lift c_2
  have c_3 := y0.lift c_3
  have c_4 := y0.lift c_4
  have c_5 := y0.lift c_5
  have LY := Lib.hid (LU.out y0)
  have KY := Lib.hid (KK.out y0)
  have F1 := Lib.hid (fun z : Wb y0.at => FI.out z.at (KY.out.trans (z.bel.mono KY.out.size)))
  have F2 := Lib.hid (fun z : Wb y0.at => FV.out z.at (KY.out.trans (z.bel.mono KY.out.size)))
  clear KK LU C0 FI FV
  refine wp_region_wb (by kernel_rfl) (by kernel_rfl) ?_
  repeat (go_big_quiet_step (first | (go_at_call 26; exact Calls.wb (F1.out _)) | (go_at_call 27; exact Calls.wb (F2.out _))))
  refine wpQuiet_nil ?_
  rintro _ ⟨x9, rfl⟩
  clear F1 F2 zI zV s1
  have c_0 := c_0 x9
  have c_1 := c_1 x9
  have c_2 := c_2 x9
  have c_3 := c_3 x9
  have c_4 := c_4 x9
  have c_5 := c_5 x9
  have LX := Lib.hid (LY.out.below x9.bel)
  have KX := Lib.hid (KY.out.trans (x9.bel.mono KY.out.size))
  clear LY KY
  obtain rfl := KE.out
  clear KE
  go_wp2
  go_ret
  exact ⟨by rw [E.out]; rfl, KX.out⟩

set_option maxRecDepth 100000 in
set_option maxHeartbeats 6400000 in
theorem print_bad (c : Cnd) (p : Option Addr) (n q : Nat) (w : World) (hb : c.cnt ≤ 1000000) (ho : c.ok) (hn : n = c.args.length) (hl : LAt w c.args p 0) (ht : TB w) (h : ¬ (c.k = 1 ∨ c.k = 2 ∨ c.k = 3 ∨ c.k = 7) ∧ (c.args.length : Int) ≠ arity c.k) : Calls Tryd.prog 11 #[.agg #[.int .i64 c.k, .int .i64 c.co, .int .i64 c.r, .int .u64 c.ad, .int .u64 c.va, .slice p n q]] w fun e w' => e = .returned (.string (strL c.pr)) ∧ Below w.heap.size w w' := by
  obtain ⟨o1, o2, o3, o4, _⟩ := ok_parts ho
  have h0 := h
  obtain ⟨sI, hsI⟩ : ∃ s, s = intS c.co := ⟨_, rfl⟩
  obtain ⟨sV, hsV⟩ : ∃ s, s = strL (hexT c.va) := ⟨_, rfl⟩
  have FI := Lib.hid (fun (U : World) (k : Below w.heap.size w U) => int_any c.co U o1.1 o1.2 (ht.below k))
  have FV := Lib.hid (fun (U : World) (k : Below w.heap.size w U) => hexI_any c.va U o4.1 o4.2 (ht.below k))
  have zI : sI.size ≤ 65 := by rw [hsI, intS, strL_size]; exact itoa_len64 o1.1 o1.2
  have zV : sV.size ≤ 66 := by rw [hsV, strL_size]; exact hexT_len o4.1 o4.2
  rw [← hsI] at FI
  rw [← hsV] at FV
  have SI := Lib.hid hsI
  have SV := Lib.hid hsV
  obtain ⟨kk, hkk⟩ : ∃ k, k = c.k := ⟨_, rfl⟩
  obtain ⟨co, hcc⟩ : ∃ k, k = c.co := ⟨_, rfl⟩
  obtain ⟨rr, hrr⟩ : ∃ k, k = c.r := ⟨_, rfl⟩
  obtain ⟨aa, haa⟩ : ∃ k, k = c.ad := ⟨_, rfl⟩
  obtain ⟨vv, hvv⟩ : ∃ k, k = c.va := ⟨_, rfl⟩
  obtain ⟨ts, hts⟩ : ∃ ts, ts = c.args := ⟨_, rfl⟩
  rw [← hcc] at FI
  rw [← hvv] at FV
  have E := Lib.hid (show strL c.pr = ⟨#[]⟩ by rw [pr_bad h.1 h.2]; rfl)
  have KE := Lib.hid (show ¬ (kk = 1 ∨ kk = 2 ∨ kk = 3 ∨ kk = 7) by rw [hkk]; exact h.1)
  have AE := Lib.hid (show ¬ (n : Int) = arity kk by rw [hkk, hn]; exact h.2)
  clear h h0
  rw [← hts] at hn hl
  rw [← hkk, ← hcc, ← hrr, ← haa, ← hvv]
  have HN := Lib.hid hn
  have s1 : ¬ 9223372036854775807 < 1 + sV.size := by omega
  clear hsI hsV ho ht o1 o2 o3 o4 hts hn hkk hcc hrr haa hvv
  go_enter Tryd.func11, Tryd.ntmps11
  go_upto_region 1 with fail
  refine to_cls ?_
  intro U0 hU0 y0
  have r_c : ∀ z : Wb U0, Row z.at w.heap.size [.int .i64 kk, .int .i64 co, .int .i64 rr, .int .u64 aa, .int .u64 vv, .slice p n q] 25 := Row.next (Row.new _ [.int .i64 kk, .int .i64 co, .int .i64 rr, .int .u64 aa, .int .u64 vv, .slice p n q] _) hU0
  have KK := Lib.hid (KB.next (KB.alloc (Below.refl w.heap.size w) _) hU0)
  clear hU0
  have c_0 := fun z : Wb U0 => (r_c z).cell 0
  have c_1 := fun z : Wb U0 => (r_c z).cell 1
  have c_2 := fun z : Wb U0 => (r_c z).cell 2
  have c_3 := fun z : Wb U0 => (r_c z).cell 3
  have c_4 := fun z : Wb U0 => (r_c z).cell 4
  have c_5 := fun z : Wb U0 => (r_c z).cell 5
  simp only [List.getElem?_cons_zero, List.getElem?_cons_succ] at c_0 c_1 c_2 c_3 c_4 c_5
  have LU := Lib.hid (fun z : Wb U0 => hl.below (KK.out z))
  clear r_c
  obtain ⟨pC, hpC⟩ : ∃ b, b = w.heap.size := ⟨_, rfl⟩
  rw [← hpC] at c_0 c_1 c_2 c_3 c_4 c_5
  simp only [← hpC]
  clear hpC hl

  have C0 := Lib.hid (fun z : Wb U0 => KK.out z)
  have c_0 := y0.lift c_0
  have c_1 := y0.lift c_1
  have c_2 := y0.lift c_2
  have c_3 := y0.lift c_3
  have c_4 := y0.lift c_4
  have c_5 := y0.lift c_5
  have LY := Lib.hid (LU.out y0)
  have KY := Lib.hid (KK.out y0)
  have F1 := Lib.hid (fun z : Wb y0.at => FI.out z.at (KY.out.trans (z.bel.mono KY.out.size)))
  have F2 := Lib.hid (fun z : Wb y0.at => FV.out z.at (KY.out.trans (z.bel.mono KY.out.size)))
  clear KK LU C0 FI FV
  refine wp_region_wb (by kernel_rfl) (by kernel_rfl) ?_
  repeat (go_big_quiet_step (first | (go_at_call 26; exact Calls.wb (F1.out _)) | (go_at_call 27; exact Calls.wb (F2.out _))))
  refine wpQuiet_nil ?_
  rintro _ ⟨x9, rfl⟩
  clear F1 F2 zI zV s1
  have c_0 := c_0 x9
  have c_1 := c_1 x9
  have c_2 := c_2 x9
  have c_3 := c_3 x9
  have c_4 := c_4 x9
  have c_5 := c_5 x9
  have LX := Lib.hid (LY.out.below x9.bel)
  have KX := Lib.hid (KY.out.trans (x9.bel.mono KY.out.size))
  clear LY KY
  have kne := KE.out
  have k1b : (kk == 1) = false := by simp; omega
  have k2b : (kk == 2) = false := by simp; omega
  have k3b : (kk == 3) = false := by simp; omega
  have k7b : (kk == 7) = false := by simp; omega
  clear kne
  obtain ⟨ar, har⟩ : ∃ a, a = arity kk := ⟨_, rfl⟩
  have n0 : (0 : Int) ≤ (n : Int) := by omega
  have AW := Lib.hid (fun U => args_any kk U)
  rw [← har] at AW AE
  clear har
  have n1 : ((n : Int) != ar) = true := by simpa using AE.out
  have c_0 := fun z : Wb x9.at => keep_below z.bel _ _ c_0
  have c_5 := fun z : Wb x9.at => keep_below z.bel _ _ c_5
  go_upto_region 11 with fail
  refine wp_region_wb (by kernel_rfl) (by kernel_rfl) ?_
  repeat (go_big_quiet_step ((go_at_call 29; exact Calls.wb ((AW.out _).mono (by rintro e w9 ⟨rfl, rfl⟩; exact ⟨rfl, Below.refl _ _⟩)))))
  refine wpQuiet_nil ?_
  rintro _ ⟨x8, rfl⟩
  have LX := Lib.hid (LX.out.below x8.bel)
  have KX := Lib.hid (KX.out.trans (x8.bel.mono KX.out.size))
  have c_0 := c_0 x8
  have c_5 := c_5 x8
  have c_1 := keep_below x8.bel _ _ c_1
  have c_2 := keep_below x8.bel _ _ c_2
  have c_3 := keep_below x8.bel _ _ c_3
  have c_4 := keep_below x8.bel _ _ c_4
  go_wp2
  go_ret
  exact ⟨by rw [E.out]; rfl, KX.out⟩

set_option maxRecDepth 100000 in
set_option maxHeartbeats 6400000 in
theorem print_not (c : Cnd) (p : Option Addr) (n q : Nat) (w : World) (hb : c.cnt ≤ 1000000) (ho : c.ok) (hn : n = c.args.length) (hl : LAt w c.args p 0) (ht : TB w) (N : Nat) (ih : ∀ (c : Cnd) (p : Option Addr) (n q : Nat) (w : World), c.cnt ≤ N → c.cnt ≤ 1000000 → c.ok → n = c.args.length → LAt w c.args p 0 → TB w → Calls Tryd.prog 11 #[.agg #[.int .i64 c.k, .int .i64 c.co, .int .i64 c.r, .int .u64 c.ad, .int .u64 c.va, .slice p n q]] w fun e w' => e = .returned (.string (strL c.pr)) ∧ Below w.heap.size w w') (hc : c.cnt ≤ N + 1) (h : c.k = 6) (hlen : c.args.length = 1) : Calls Tryd.prog 11 #[.agg #[.int .i64 c.k, .int .i64 c.co, .int .i64 c.r, .int .u64 c.ad, .int .u64 c.va, .slice p n q]] w fun e w' => e = .returned (.string (strL c.pr)) ∧ Below w.heap.size w w' := by
  obtain ⟨o1, o2, o3, o4, _⟩ := ok_parts ho
  have h0 : 0 < c.args.length := by omega
  have W0 := Lib.hid (fun (U : World) (k : Below w.heap.size w U) => within_of N ih c p n q 0 U hc hb ho hn (hl.below k) (ht.below k) h0 (by omega))
  obtain ⟨t0, ht0⟩ : ∃ t, t = wit c.k 0 (c.args[0]'h0).k (c.args[0]'h0).pr := ⟨_, rfl⟩
  rw [← ht0] at W0
  have TZ := Lib.hid (show t0.length ≤ 300000002 by rw [ht0]; have := wit_len c.k 0 (c.args[0]'h0).k (c.args[0]'h0).pr; have := pr_len _ (c.args[0]'h0) (Nat.le_refl _) ((ok_parts ho).2.2.2.2 _ (List.getElem_mem h0)); have := mem_cnt h0; have := cnt_args c; omega)
  obtain ⟨sI, hsI⟩ : ∃ s, s = intS c.co := ⟨_, rfl⟩
  obtain ⟨sV, hsV⟩ : ∃ s, s = strL (hexT c.va) := ⟨_, rfl⟩
  have FI := Lib.hid (fun (U : World) (k : Below w.heap.size w U) => int_any c.co U o1.1 o1.2 (ht.below k))
  have FV := Lib.hid (fun (U : World) (k : Below w.heap.size w U) => hexI_any c.va U o4.1 o4.2 (ht.below k))
  have zI : sI.size ≤ 65 := by rw [hsI, intS, strL_size]; exact itoa_len64 o1.1 o1.2
  have zV : sV.size ≤ 66 := by rw [hsV, strL_size]; exact hexT_len o4.1 o4.2
  rw [← hsI] at FI
  rw [← hsV] at FV
  have SI := Lib.hid hsI
  have SV := Lib.hid hsV
  obtain ⟨kk, hkk⟩ : ∃ k, k = c.k := ⟨_, rfl⟩
  obtain ⟨co, hcc⟩ : ∃ k, k = c.co := ⟨_, rfl⟩
  obtain ⟨rr, hrr⟩ : ∃ k, k = c.r := ⟨_, rfl⟩
  obtain ⟨aa, haa⟩ : ∃ k, k = c.ad := ⟨_, rfl⟩
  obtain ⟨vv, hvv⟩ : ∃ k, k = c.va := ⟨_, rfl⟩
  obtain ⟨ts, hts⟩ : ∃ ts, ts = c.args := ⟨_, rfl⟩
  rw [← hcc] at FI
  rw [← hvv] at FV
  have E := Lib.hid (show strL c.pr = ⟨#[126]⟩ ++ strL t0 by
    rw [pr_not h hlen h0, ht0, h, show (⟨#[126]⟩ : ByteArray) = strL [126] from rfl, strL_app]
    rfl)
  have KE := Lib.hid (show kk = 6 from hkk.trans h)
  have NE := Lib.hid (hn.trans hlen)
  rw [← hkk, ← hcc, ← hrr, ← haa, ← hvv] at W0
  clear h hlen h0 ht0 hc ih
  rw [← hts] at hn hl
  rw [← hkk, ← hcc, ← hrr, ← haa, ← hvv]
  have HN := Lib.hid hn
  have s1 : ¬ 9223372036854775807 < 1 + sV.size := by omega
  clear hsI hsV ho ht o1 o2 o3 o4 hts hn hkk hcc hrr haa hvv
  go_enter Tryd.func11, Tryd.ntmps11
  go_upto_region 1 with fail
  refine to_cls ?_
  intro U0 hU0 y0
  have r_c : ∀ z : Wb U0, Row z.at w.heap.size [.int .i64 kk, .int .i64 co, .int .i64 rr, .int .u64 aa, .int .u64 vv, .slice p n q] 25 := Row.next (Row.new _ [.int .i64 kk, .int .i64 co, .int .i64 rr, .int .u64 aa, .int .u64 vv, .slice p n q] _) hU0
  have KK := Lib.hid (KB.next (KB.alloc (Below.refl w.heap.size w) _) hU0)
  clear hU0
  have c_0 := fun z : Wb U0 => (r_c z).cell 0
  have c_1 := fun z : Wb U0 => (r_c z).cell 1
  have c_2 := fun z : Wb U0 => (r_c z).cell 2
  have c_3 := fun z : Wb U0 => (r_c z).cell 3
  have c_4 := fun z : Wb U0 => (r_c z).cell 4
  have c_5 := fun z : Wb U0 => (r_c z).cell 5
  simp only [List.getElem?_cons_zero, List.getElem?_cons_succ] at c_0 c_1 c_2 c_3 c_4 c_5
  have LU := Lib.hid (fun z : Wb U0 => hl.below (KK.out z))
  clear r_c
  obtain ⟨pC, hpC⟩ : ∃ b, b = w.heap.size := ⟨_, rfl⟩
  rw [← hpC] at c_0 c_1 c_2 c_3 c_4 c_5
  simp only [← hpC]
  clear hpC hl

  have C0 := Lib.hid (fun z : Wb U0 => KK.out z)
  have c_0 := y0.lift c_0
  have c_1 := y0.lift c_1
  have c_2 := y0.lift c_2
  have c_3 := y0.lift c_3
  have c_4 := y0.lift c_4
  have c_5 := y0.lift c_5
  have LY := Lib.hid (LU.out y0)
  have KY := Lib.hid (KK.out y0)
  have F1 := Lib.hid (fun z : Wb y0.at => FI.out z.at (KY.out.trans (z.bel.mono KY.out.size)))
  have F2 := Lib.hid (fun z : Wb y0.at => FV.out z.at (KY.out.trans (z.bel.mono KY.out.size)))
  clear KK LU C0 FI FV
  refine wp_region_wb (by kernel_rfl) (by kernel_rfl) ?_
  repeat (go_big_quiet_step (first | (go_at_call 26; exact Calls.wb (F1.out _)) | (go_at_call 27; exact Calls.wb (F2.out _))))
  refine wpQuiet_nil ?_
  rintro _ ⟨x9, rfl⟩
  clear F1 F2 zI zV s1
  have c_0 := c_0 x9
  have c_1 := c_1 x9
  have c_2 := c_2 x9
  have c_3 := c_3 x9
  have c_4 := c_4 x9
  have c_5 := c_5 x9
  have LX := Lib.hid (LY.out.below x9.bel)
  have KX := Lib.hid (KY.out.trans (x9.bel.mono KY.out.size))
  clear LY KY
  obtain rfl := KE.out
  obtain rfl := NE.out
  clear KE NE
  have a6 : arity 6 = 1 := rfl
  have tz : (strL t0).size = t0.length := strL_size _
  have tl := TZ.out
  have AW := Lib.hid (fun U => args_any 6 U)
  rw [a6] at AW
  clear a6
  have c_0 := fun z : Wb x9.at => keep_below z.bel _ _ c_0
  have c_5 := fun z : Wb x9.at => keep_below z.bel _ _ c_5
  go_upto_region 11 with fail
  refine wp_region_wb (by kernel_rfl) (by kernel_rfl) ?_
  repeat (go_big_quiet_step ((go_at_call 29; exact Calls.wb ((AW.out _).mono (by rintro e w9 ⟨rfl, rfl⟩; exact ⟨rfl, Below.refl _ _⟩)))))
  refine wpQuiet_nil ?_
  rintro _ ⟨x8, rfl⟩
  have LX := Lib.hid (LX.out.below x8.bel)
  have KX := Lib.hid (KX.out.trans (x8.bel.mono KX.out.size))
  have c_0 := c_0 x8
  have c_5 := c_5 x8
  have c_1 := keep_below x8.bel _ _ c_1
  have c_2 := keep_below x8.bel _ _ c_2
  have c_3 := keep_below x8.bel _ _ c_3
  have c_4 := keep_below x8.bel _ _ c_4
  have u0 : ¬ 9223372036854775807 < 1 + (strL t0).size := by omega
  clear tz tl
  go_wp2_with (go_at_call 30; refine (W0.out _ KX.out).mono ?_; rintro e w9 ⟨rfl, g⟩; have G9 := Lib.hid g; clear g)
  go_ret
  exact ⟨by rw [E.out]; rfl, KX.out.trans (G9.out.mono KX.out.size)⟩

set_option maxRecDepth 100000 in
set_option maxHeartbeats 6400000 in
theorem print_and (c : Cnd) (p : Option Addr) (n q : Nat) (w : World) (hb : c.cnt ≤ 1000000) (ho : c.ok) (hn : n = c.args.length) (hl : LAt w c.args p 0) (ht : TB w) (N : Nat) (ih : ∀ (c : Cnd) (p : Option Addr) (n q : Nat) (w : World), c.cnt ≤ N → c.cnt ≤ 1000000 → c.ok → n = c.args.length → LAt w c.args p 0 → TB w → Calls Tryd.prog 11 #[.agg #[.int .i64 c.k, .int .i64 c.co, .int .i64 c.r, .int .u64 c.ad, .int .u64 c.va, .slice p n q]] w fun e w' => e = .returned (.string (strL c.pr)) ∧ Below w.heap.size w w') (hc : c.cnt ≤ N + 1) (h : c.k = 4) (hlen : c.args.length = 2) : Calls Tryd.prog 11 #[.agg #[.int .i64 c.k, .int .i64 c.co, .int .i64 c.r, .int .u64 c.ad, .int .u64 c.va, .slice p n q]] w fun e w' => e = .returned (.string (strL c.pr)) ∧ Below w.heap.size w w' := by
  obtain ⟨o1, o2, o3, o4, _⟩ := ok_parts ho
  have h0 : 0 < c.args.length := by omega
  have h1 : 1 < c.args.length := by omega
  have W0 := Lib.hid (fun (U : World) (k : Below w.heap.size w U) => within_of N ih c p n q 0 U hc hb ho hn (hl.below k) (ht.below k) h0 (by omega))
  obtain ⟨t0, ht0⟩ : ∃ t, t = wit c.k 0 (c.args[0]'h0).k (c.args[0]'h0).pr := ⟨_, rfl⟩
  rw [← ht0] at W0
  have TZ0 := Lib.hid (show t0.length ≤ 300000002 by rw [ht0]; have := wit_len c.k 0 (c.args[0]'h0).k (c.args[0]'h0).pr; have := pr_len _ (c.args[0]'h0) (Nat.le_refl _) ((ok_parts ho).2.2.2.2 _ (List.getElem_mem h0)); have := mem_cnt h0; have := cnt_args c; omega)
  have W1 := Lib.hid (fun (U : World) (k : Below w.heap.size w U) => within_of N ih c p n q 1 U hc hb ho hn (hl.below k) (ht.below k) h1 (by omega))
  obtain ⟨t1, ht1⟩ : ∃ t, t = wit c.k 1 (c.args[1]'h1).k (c.args[1]'h1).pr := ⟨_, rfl⟩
  rw [← ht1] at W1
  have TZ1 := Lib.hid (show t1.length ≤ 300000002 by rw [ht1]; have := wit_len c.k 1 (c.args[1]'h1).k (c.args[1]'h1).pr; have := pr_len _ (c.args[1]'h1) (Nat.le_refl _) ((ok_parts ho).2.2.2.2 _ (List.getElem_mem h1)); have := mem_cnt h1; have := cnt_args c; omega)

  obtain ⟨sI, hsI⟩ : ∃ s, s = intS c.co := ⟨_, rfl⟩
  obtain ⟨sV, hsV⟩ : ∃ s, s = strL (hexT c.va) := ⟨_, rfl⟩
  have FI := Lib.hid (fun (U : World) (k : Below w.heap.size w U) => int_any c.co U o1.1 o1.2 (ht.below k))
  have FV := Lib.hid (fun (U : World) (k : Below w.heap.size w U) => hexI_any c.va U o4.1 o4.2 (ht.below k))
  have zI : sI.size ≤ 65 := by rw [hsI, intS, strL_size]; exact itoa_len64 o1.1 o1.2
  have zV : sV.size ≤ 66 := by rw [hsV, strL_size]; exact hexT_len o4.1 o4.2
  rw [← hsI] at FI
  rw [← hsV] at FV
  have SI := Lib.hid hsI
  have SV := Lib.hid hsV
  obtain ⟨kk, hkk⟩ : ∃ k, k = c.k := ⟨_, rfl⟩
  obtain ⟨co, hcc⟩ : ∃ k, k = c.co := ⟨_, rfl⟩
  obtain ⟨rr, hrr⟩ : ∃ k, k = c.r := ⟨_, rfl⟩
  obtain ⟨aa, haa⟩ : ∃ k, k = c.ad := ⟨_, rfl⟩
  obtain ⟨vv, hvv⟩ : ∃ k, k = c.va := ⟨_, rfl⟩
  obtain ⟨ts, hts⟩ : ∃ ts, ts = c.args := ⟨_, rfl⟩
  rw [← hcc] at FI
  rw [← hvv] at FV
  have E := Lib.hid (show strL c.pr = strL t0 ++ ⟨#[32]⟩ ++ ⟨#[47, 92]⟩ ++ ⟨#[32]⟩ ++ strL t1 by
    rw [pr_two (by omega) hlen h0 h1, ht0, ht1, h, show sgT 4 = [32, 47, 92, 32] from rfl, show (⟨#[32]⟩ : ByteArray) = strL [32] from rfl, show (⟨#[47, 92]⟩ : ByteArray) = strL [47, 92] from rfl, strL_app, strL_app, strL_app, strL_app]
    simp)
  have KE := Lib.hid (show kk = 4 from hkk.trans h)
  have NE := Lib.hid (hn.trans hlen)
  rw [← hkk, ← hcc, ← hrr, ← haa, ← hvv] at W0 W1
  clear h hlen h0 h1 ht0 ht1 hc ih
  rw [← hts] at hn hl
  rw [← hkk, ← hcc, ← hrr, ← haa, ← hvv]
  have HN := Lib.hid hn
  have s1 : ¬ 9223372036854775807 < 1 + sV.size := by omega
  clear hsI hsV ho ht o1 o2 o3 o4 hts hn hkk hcc hrr haa hvv
  go_enter Tryd.func11, Tryd.ntmps11
  go_upto_region 1 with fail
  refine to_cls ?_
  intro U0 hU0 y0
  have r_c : ∀ z : Wb U0, Row z.at w.heap.size [.int .i64 kk, .int .i64 co, .int .i64 rr, .int .u64 aa, .int .u64 vv, .slice p n q] 25 := Row.next (Row.new _ [.int .i64 kk, .int .i64 co, .int .i64 rr, .int .u64 aa, .int .u64 vv, .slice p n q] _) hU0
  have KK := Lib.hid (KB.next (KB.alloc (Below.refl w.heap.size w) _) hU0)
  clear hU0
  have c_0 := fun z : Wb U0 => (r_c z).cell 0
  have c_1 := fun z : Wb U0 => (r_c z).cell 1
  have c_2 := fun z : Wb U0 => (r_c z).cell 2
  have c_3 := fun z : Wb U0 => (r_c z).cell 3
  have c_4 := fun z : Wb U0 => (r_c z).cell 4
  have c_5 := fun z : Wb U0 => (r_c z).cell 5
  simp only [List.getElem?_cons_zero, List.getElem?_cons_succ] at c_0 c_1 c_2 c_3 c_4 c_5
  have LU := Lib.hid (fun z : Wb U0 => hl.below (KK.out z))
  clear r_c
  obtain ⟨pC, hpC⟩ : ∃ b, b = w.heap.size := ⟨_, rfl⟩
  rw [← hpC] at c_0 c_1 c_2 c_3 c_4 c_5
  simp only [← hpC]
  clear hpC hl

  have C0 := Lib.hid (fun z : Wb U0 => KK.out z)
  have c_0 := y0.lift c_0
  have c_1 := y0.lift c_1
  have c_2 := y0.lift c_2
  have c_3 := y0.lift c_3
  have c_4 := y0.lift c_4
  have c_5 := y0.lift c_5
  have LY := Lib.hid (LU.out y0)
  have KY := Lib.hid (KK.out y0)
  have F1 := Lib.hid (fun z : Wb y0.at => FI.out z.at (KY.out.trans (z.bel.mono KY.out.size)))
  have F2 := Lib.hid (fun z : Wb y0.at => FV.out z.at (KY.out.trans (z.bel.mono KY.out.size)))
  clear KK LU C0 FI FV
  refine wp_region_wb (by kernel_rfl) (by kernel_rfl) ?_
  repeat (go_big_quiet_step (first | (go_at_call 26; exact Calls.wb (F1.out _)) | (go_at_call 27; exact Calls.wb (F2.out _))))
  refine wpQuiet_nil ?_
  rintro _ ⟨x9, rfl⟩
  clear F1 F2 zI zV s1
  have c_0 := c_0 x9
  have c_1 := c_1 x9
  have c_2 := c_2 x9
  have c_3 := c_3 x9
  have c_4 := c_4 x9
  have c_5 := c_5 x9
  have LX := Lib.hid (LY.out.below x9.bel)
  have KX := Lib.hid (KY.out.trans (x9.bel.mono KY.out.size))
  clear LY KY
  obtain rfl := KE.out
  obtain rfl := NE.out
  clear KE NE
  have a6 : arity 4 = 2 := rfl
  have tz0 : (strL t0).size = t0.length := strL_size _
  have tz1 : (strL t1).size = t1.length := strL_size _
  have tl0 := TZ0.out
  have tl1 := TZ1.out
  have AW := Lib.hid (fun U => args_any 4 U)
  rw [a6] at AW
  clear a6
  have c_0 := fun z : Wb x9.at => keep_below z.bel _ _ c_0
  have c_5 := fun z : Wb x9.at => keep_below z.bel _ _ c_5
  go_upto_region 11 with fail
  refine wp_region_wb (by kernel_rfl) (by kernel_rfl) ?_
  repeat (go_big_quiet_step ((go_at_call 29; exact Calls.wb ((AW.out _).mono (by rintro e w9 ⟨rfl, rfl⟩; exact ⟨rfl, Below.refl _ _⟩)))))
  refine wpQuiet_nil ?_
  rintro _ ⟨x8, rfl⟩
  have LX := Lib.hid (LX.out.below x8.bel)
  have KX := Lib.hid (KX.out.trans (x8.bel.mono KX.out.size))
  have c_0 := c_0 x8
  have c_5 := c_5 x8
  have c_1 := keep_below x8.bel _ _ c_1
  have c_2 := keep_below x8.bel _ _ c_2
  have c_3 := keep_below x8.bel _ _ c_3
  have c_4 := keep_below x8.bel _ _ c_4
  have u0 : ¬ 9223372036854775807 < (strL t0).size + 1 := by omega
  have u1 : ¬ 9223372036854775807 < (strL t0).size + 1 + 2 := by omega
  have u2 : ¬ 9223372036854775807 < (strL t0).size + 1 + 2 + 1 := by omega
  have u3 : ¬ 9223372036854775807 < (strL t0).size + 1 + 2 + 1 + (strL t1).size := by omega
  clear tz0 tl0 tz1 tl1
  have G0 := Lib.hid (fun z : Wb x8.at => W0.out z.at (KX.out.trans (z.bel.mono KX.out.size)))
  have G1 := Lib.hid (fun z : Wb x8.at => W1.out z.at (KX.out.trans (z.bel.mono KX.out.size)))
  go_upto_region 17 with fail
  have c_0 := fun z : Wb x8.at => keep_below z.bel _ _ c_0
  have c_1 := fun z : Wb x8.at => keep_below z.bel _ _ c_1
  have c_2 := fun z : Wb x8.at => keep_below z.bel _ _ c_2
  have c_3 := fun z : Wb x8.at => keep_below z.bel _ _ c_3
  have c_4 := fun z : Wb x8.at => keep_below z.bel _ _ c_4
  have c_5 := fun z : Wb x8.at => keep_below z.bel _ _ c_5
  refine wp_region_wb (by kernel_rfl) (by kernel_rfl) ?_
  iterate 6 (go_big_quiet_step ((go_at_call 30; exact Calls.wb (G0.out _))))
  repeat (go_big_quiet_step ((go_at_call 30; exact Calls.wb (G1.out _))))
  refine wpQuiet_nil ?_
  rintro _ ⟨x7, rfl⟩
  go_wp2
  go_ret
  exact ⟨by rw [E.out]; rfl, KX.out.trans (x7.bel.mono KX.out.size)⟩

set_option maxRecDepth 100000 in
set_option maxHeartbeats 6400000 in
theorem print_or (c : Cnd) (p : Option Addr) (n q : Nat) (w : World) (hb : c.cnt ≤ 1000000) (ho : c.ok) (hn : n = c.args.length) (hl : LAt w c.args p 0) (ht : TB w) (N : Nat) (ih : ∀ (c : Cnd) (p : Option Addr) (n q : Nat) (w : World), c.cnt ≤ N → c.cnt ≤ 1000000 → c.ok → n = c.args.length → LAt w c.args p 0 → TB w → Calls Tryd.prog 11 #[.agg #[.int .i64 c.k, .int .i64 c.co, .int .i64 c.r, .int .u64 c.ad, .int .u64 c.va, .slice p n q]] w fun e w' => e = .returned (.string (strL c.pr)) ∧ Below w.heap.size w w') (hc : c.cnt ≤ N + 1) (h : c.k = 5) (hlen : c.args.length = 2) : Calls Tryd.prog 11 #[.agg #[.int .i64 c.k, .int .i64 c.co, .int .i64 c.r, .int .u64 c.ad, .int .u64 c.va, .slice p n q]] w fun e w' => e = .returned (.string (strL c.pr)) ∧ Below w.heap.size w w' := by
  obtain ⟨o1, o2, o3, o4, _⟩ := ok_parts ho
  have h0 : 0 < c.args.length := by omega
  have h1 : 1 < c.args.length := by omega
  have W0 := Lib.hid (fun (U : World) (k : Below w.heap.size w U) => within_of N ih c p n q 0 U hc hb ho hn (hl.below k) (ht.below k) h0 (by omega))
  obtain ⟨t0, ht0⟩ : ∃ t, t = wit c.k 0 (c.args[0]'h0).k (c.args[0]'h0).pr := ⟨_, rfl⟩
  rw [← ht0] at W0
  have TZ0 := Lib.hid (show t0.length ≤ 300000002 by rw [ht0]; have := wit_len c.k 0 (c.args[0]'h0).k (c.args[0]'h0).pr; have := pr_len _ (c.args[0]'h0) (Nat.le_refl _) ((ok_parts ho).2.2.2.2 _ (List.getElem_mem h0)); have := mem_cnt h0; have := cnt_args c; omega)
  have W1 := Lib.hid (fun (U : World) (k : Below w.heap.size w U) => within_of N ih c p n q 1 U hc hb ho hn (hl.below k) (ht.below k) h1 (by omega))
  obtain ⟨t1, ht1⟩ : ∃ t, t = wit c.k 1 (c.args[1]'h1).k (c.args[1]'h1).pr := ⟨_, rfl⟩
  rw [← ht1] at W1
  have TZ1 := Lib.hid (show t1.length ≤ 300000002 by rw [ht1]; have := wit_len c.k 1 (c.args[1]'h1).k (c.args[1]'h1).pr; have := pr_len _ (c.args[1]'h1) (Nat.le_refl _) ((ok_parts ho).2.2.2.2 _ (List.getElem_mem h1)); have := mem_cnt h1; have := cnt_args c; omega)

  obtain ⟨sI, hsI⟩ : ∃ s, s = intS c.co := ⟨_, rfl⟩
  obtain ⟨sV, hsV⟩ : ∃ s, s = strL (hexT c.va) := ⟨_, rfl⟩
  have FI := Lib.hid (fun (U : World) (k : Below w.heap.size w U) => int_any c.co U o1.1 o1.2 (ht.below k))
  have FV := Lib.hid (fun (U : World) (k : Below w.heap.size w U) => hexI_any c.va U o4.1 o4.2 (ht.below k))
  have zI : sI.size ≤ 65 := by rw [hsI, intS, strL_size]; exact itoa_len64 o1.1 o1.2
  have zV : sV.size ≤ 66 := by rw [hsV, strL_size]; exact hexT_len o4.1 o4.2
  rw [← hsI] at FI
  rw [← hsV] at FV
  have SI := Lib.hid hsI
  have SV := Lib.hid hsV
  obtain ⟨kk, hkk⟩ : ∃ k, k = c.k := ⟨_, rfl⟩
  obtain ⟨co, hcc⟩ : ∃ k, k = c.co := ⟨_, rfl⟩
  obtain ⟨rr, hrr⟩ : ∃ k, k = c.r := ⟨_, rfl⟩
  obtain ⟨aa, haa⟩ : ∃ k, k = c.ad := ⟨_, rfl⟩
  obtain ⟨vv, hvv⟩ : ∃ k, k = c.va := ⟨_, rfl⟩
  obtain ⟨ts, hts⟩ : ∃ ts, ts = c.args := ⟨_, rfl⟩
  rw [← hcc] at FI
  rw [← hvv] at FV
  have E := Lib.hid (show strL c.pr = strL t0 ++ ⟨#[32]⟩ ++ ⟨#[92, 47]⟩ ++ ⟨#[32]⟩ ++ strL t1 by
    rw [pr_two (by omega) hlen h0 h1, ht0, ht1, h, show sgT 5 = [32, 92, 47, 32] from rfl, show (⟨#[32]⟩ : ByteArray) = strL [32] from rfl, show (⟨#[92, 47]⟩ : ByteArray) = strL [92, 47] from rfl, strL_app, strL_app, strL_app, strL_app]
    simp)
  have KE := Lib.hid (show kk = 5 from hkk.trans h)
  have NE := Lib.hid (hn.trans hlen)
  rw [← hkk, ← hcc, ← hrr, ← haa, ← hvv] at W0 W1
  clear h hlen h0 h1 ht0 ht1 hc ih
  rw [← hts] at hn hl
  rw [← hkk, ← hcc, ← hrr, ← haa, ← hvv]
  have HN := Lib.hid hn
  have s1 : ¬ 9223372036854775807 < 1 + sV.size := by omega
  clear hsI hsV ho ht o1 o2 o3 o4 hts hn hkk hcc hrr haa hvv
  go_enter Tryd.func11, Tryd.ntmps11
  go_upto_region 1 with fail
  refine to_cls ?_
  intro U0 hU0 y0
  have r_c : ∀ z : Wb U0, Row z.at w.heap.size [.int .i64 kk, .int .i64 co, .int .i64 rr, .int .u64 aa, .int .u64 vv, .slice p n q] 25 := Row.next (Row.new _ [.int .i64 kk, .int .i64 co, .int .i64 rr, .int .u64 aa, .int .u64 vv, .slice p n q] _) hU0
  have KK := Lib.hid (KB.next (KB.alloc (Below.refl w.heap.size w) _) hU0)
  clear hU0
  have c_0 := fun z : Wb U0 => (r_c z).cell 0
  have c_1 := fun z : Wb U0 => (r_c z).cell 1
  have c_2 := fun z : Wb U0 => (r_c z).cell 2
  have c_3 := fun z : Wb U0 => (r_c z).cell 3
  have c_4 := fun z : Wb U0 => (r_c z).cell 4
  have c_5 := fun z : Wb U0 => (r_c z).cell 5
  simp only [List.getElem?_cons_zero, List.getElem?_cons_succ] at c_0 c_1 c_2 c_3 c_4 c_5
  have LU := Lib.hid (fun z : Wb U0 => hl.below (KK.out z))
  clear r_c
  obtain ⟨pC, hpC⟩ : ∃ b, b = w.heap.size := ⟨_, rfl⟩
  rw [← hpC] at c_0 c_1 c_2 c_3 c_4 c_5
  simp only [← hpC]
  clear hpC hl

  have C0 := Lib.hid (fun z : Wb U0 => KK.out z)
  have c_0 := y0.lift c_0
  have c_1 := y0.lift c_1
  have c_2 := y0.lift c_2
  have c_3 := y0.lift c_3
  have c_4 := y0.lift c_4
  have c_5 := y0.lift c_5
  have LY := Lib.hid (LU.out y0)
  have KY := Lib.hid (KK.out y0)
  have F1 := Lib.hid (fun z : Wb y0.at => FI.out z.at (KY.out.trans (z.bel.mono KY.out.size)))
  have F2 := Lib.hid (fun z : Wb y0.at => FV.out z.at (KY.out.trans (z.bel.mono KY.out.size)))
  clear KK LU C0 FI FV
  refine wp_region_wb (by kernel_rfl) (by kernel_rfl) ?_
  repeat (go_big_quiet_step (first | (go_at_call 26; exact Calls.wb (F1.out _)) | (go_at_call 27; exact Calls.wb (F2.out _))))
  refine wpQuiet_nil ?_
  rintro _ ⟨x9, rfl⟩
  clear F1 F2 zI zV s1
  have c_0 := c_0 x9
  have c_1 := c_1 x9
  have c_2 := c_2 x9
  have c_3 := c_3 x9
  have c_4 := c_4 x9
  have c_5 := c_5 x9
  have LX := Lib.hid (LY.out.below x9.bel)
  have KX := Lib.hid (KY.out.trans (x9.bel.mono KY.out.size))
  clear LY KY
  obtain rfl := KE.out
  obtain rfl := NE.out
  clear KE NE
  have a6 : arity 5 = 2 := rfl
  have tz0 : (strL t0).size = t0.length := strL_size _
  have tz1 : (strL t1).size = t1.length := strL_size _
  have tl0 := TZ0.out
  have tl1 := TZ1.out
  have AW := Lib.hid (fun U => args_any 5 U)
  rw [a6] at AW
  clear a6
  have c_0 := fun z : Wb x9.at => keep_below z.bel _ _ c_0
  have c_5 := fun z : Wb x9.at => keep_below z.bel _ _ c_5
  go_upto_region 11 with fail
  refine wp_region_wb (by kernel_rfl) (by kernel_rfl) ?_
  repeat (go_big_quiet_step ((go_at_call 29; exact Calls.wb ((AW.out _).mono (by rintro e w9 ⟨rfl, rfl⟩; exact ⟨rfl, Below.refl _ _⟩)))))
  refine wpQuiet_nil ?_
  rintro _ ⟨x8, rfl⟩
  have LX := Lib.hid (LX.out.below x8.bel)
  have KX := Lib.hid (KX.out.trans (x8.bel.mono KX.out.size))
  have c_0 := c_0 x8
  have c_5 := c_5 x8
  have c_1 := keep_below x8.bel _ _ c_1
  have c_2 := keep_below x8.bel _ _ c_2
  have c_3 := keep_below x8.bel _ _ c_3
  have c_4 := keep_below x8.bel _ _ c_4
  have u0 : ¬ 9223372036854775807 < (strL t0).size + 1 := by omega
  have u1 : ¬ 9223372036854775807 < (strL t0).size + 1 + 2 := by omega
  have u2 : ¬ 9223372036854775807 < (strL t0).size + 1 + 2 + 1 := by omega
  have u3 : ¬ 9223372036854775807 < (strL t0).size + 1 + 2 + 1 + (strL t1).size := by omega
  clear tz0 tl0 tz1 tl1
  have G0 := Lib.hid (fun z : Wb x8.at => W0.out z.at (KX.out.trans (z.bel.mono KX.out.size)))
  have G1 := Lib.hid (fun z : Wb x8.at => W1.out z.at (KX.out.trans (z.bel.mono KX.out.size)))
  go_upto_region 19 with fail
  have c_0 := fun z : Wb x8.at => keep_below z.bel _ _ c_0
  have c_1 := fun z : Wb x8.at => keep_below z.bel _ _ c_1
  have c_2 := fun z : Wb x8.at => keep_below z.bel _ _ c_2
  have c_3 := fun z : Wb x8.at => keep_below z.bel _ _ c_3
  have c_4 := fun z : Wb x8.at => keep_below z.bel _ _ c_4
  have c_5 := fun z : Wb x8.at => keep_below z.bel _ _ c_5
  refine wp_region_wb (by kernel_rfl) (by kernel_rfl) ?_
  iterate 6 (go_big_quiet_step ((go_at_call 30; exact Calls.wb (G0.out _))))
  repeat (go_big_quiet_step ((go_at_call 30; exact Calls.wb (G1.out _))))
  refine wpQuiet_nil ?_
  rintro _ ⟨x7, rfl⟩
  go_wp2
  go_ret
  exact ⟨by rw [E.out]; rfl, KX.out.trans (x7.bel.mono KX.out.size)⟩

theorem print_any : ∀ (N : Nat), ∀ (c : Cnd) (p : Option Addr) (n q : Nat) (w : World), c.cnt ≤ N → c.cnt ≤ 1000000 → c.ok → n = c.args.length → LAt w c.args p 0 → TB w → Calls Tryd.prog 11 #[.agg #[.int .i64 c.k, .int .i64 c.co, .int .i64 c.r, .int .u64 c.ad, .int .u64 c.va, .slice p n q]] w fun e w' => e = .returned (.string (strL c.pr)) ∧ Below w.heap.size w w' := by
  intro N
  induction N with
  | zero => intro c p n q w hc; have := cnt_pos c; omega
  | succ N ih =>
    intro c p n q w hc hb ho hn hl ht
    by_cases h1 : c.k = 1
    · exact print_reg c p n q w hb ho hn hl ht h1
    by_cases h2 : c.k = 2
    · exact print_cell c p n q w hb ho hn hl ht h2
    by_cases h3 : c.k = 3
    · exact print_flt c p n q w hb ho hn hl ht h3
    by_cases h7 : c.k = 7
    · exact print_true c p n q w hb ho hn hl ht h7
    by_cases ha : (c.args.length : Int) = arity c.k
    · rw [arity_eq] at ha
      rcases ha with ha | ha | ⟨ha | ha, hlen⟩
      · omega
      · exact print_not c p n q w hb ho hn hl ht N ih hc ha.1 ha.2
      · exact print_and c p n q w hb ho hn hl ht N ih hc ha hlen
      · exact print_or c p n q w hb ho hn hl ht N ih hc ha hlen
    · exact print_bad c p n q w hb ho hn hl ht ⟨by omega, ha⟩
end Go.Proofs.YtgpngjgilcbigaaDoor
