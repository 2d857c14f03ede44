/-
  Layer 6, the laws' walks: StoreKeeps.
-/
import Derived.Test.YtnpgpbcpgniloaaYg
set_option linter.unusedSimpArgs false
set_option linter.unusedVariables false
namespace GrS
theorem assoc_win (L : PL) (k : Nat) (v : Int) : assoc (winL L k v) k = some v := by
  unfold winL
  rw [assoc_snoc _ _ _ _ (wit_no L k)]
  simp
theorem assoc_wit_no (L : PL) (k : Nat) : assoc (witL L k) k = none := by rw [assoc_wit]; simp
end GrS
namespace Go.Proofs.Ytnpgpbcpgniloaa
open Go.RowKit GrS

set_option maxRecDepth 100000 in
set_option maxHeartbeats 12800000 in
theorem StoreKeeps_walk (v : Value) (S : OpL) (ob : Bool) (K : Nat) (V : Int) (w : World) (h : SlO w v S) (hb : BdO S) (hk : K < 18446744073709551616) :
    Calls Try.prog 9 #[v, .agg #[.bool ob, .int .u64 (K : Int), .int .i64 V]] w fun e w' => e = .returned (.bool true) ∧ Below w.heap.size w w' := by
  have AW := Lib.hid (fun w => awake6_any w)
  have HS := Lib.hid h
  have HB := Lib.hid hb
  have HK := Lib.hid hk
  clear h hb hk
  go_enter Try.func9, Try.ntmps9
  go_upto_region 1 with fail
  refine to_cls ?_
  intro U0 hU0 y0
  have r_o : ∀ z : Wb U0, Row z.at (w.heap.size) [.bool ob, .int .u64 (K : Int), .int .i64 V] 79 := Row.next (Row.new _ [.bool ob, .int .u64 (K : Int), .int .i64 V] _) hU0
  have KK := Lib.hid (KB.next (KB.alloc (Below.refl _ _) _) hU0)
  clear hU0
  have c_o_0 : ∀ z : Wb U0, z.at.cell? ⟨w.heap.size, 0, none⟩ = some (.bool ob) := fun z => (r_o z).cell 0
  have c_o_1 : ∀ z : Wb U0, z.at.cell? ⟨w.heap.size, 1, none⟩ = some (.int .u64 (K : Int)) := fun z => (r_o z).cell 1
  have c_o_2 : ∀ z : Wb U0, z.at.cell? ⟨w.heap.size, 2, none⟩ = some (.int .i64 V) := fun z => (r_o z).cell 2
  go_wp2_with fail
  refine (AW.out _).mono ?_
  rintro e w1 ⟨rfl, g⟩
  obtain ⟨y1, rfl⟩ := Wb.next (x := y0) g
  clear g
  go_wp2_with fail
  refine (played_any v S y1.at (HS.out.below (KK.out y1)) HB.out).mono ?_
  rintro e w2 ⟨p, n, t, lv, L, rfl, ma, ow, rl, ll, g⟩
  obtain ⟨y2, rfl⟩ := Wb.next (x := y1) g
  have MA1 := Lib.hid ma
  have OW1 := Lib.hid (show SlM y2.at lv L from SlAt.own ow)
  have RL := Lib.hid rl
  have LL := Lib.hid ll
  have WT := Lib.hid ma.wf
  have NL := Lib.hid (show n ≤ 60 by rw [ma.n, relM_len rl ma.wf]; omega)
  clear ma ow rl ll g
  go_upto_region 4 with fail
  refine to_cls ?_
  intro U3 hU3 y3
  clear c_o_0 c_o_1 c_o_2
  have r_o : ∀ z : Wb U3, Row z.at (w.heap.size) [.bool ob, .int .u64 (K : Int), .int .i64 V] 79 := Row.next ((r_o y2).old _) hU3
  have r_m : ∀ z : Wb U3, Row z.at (y2.at.heap.size) [.pointer p, .int .i64 n] 69 := Row.next (Row.new _ [.pointer p, .int .i64 n] _) hU3
  have KK := Lib.hid (KB.next (KB.alloc (KK.out y2) _) hU3)
  have MA := Lib.hid (fun z : Wb U3 => (((MA1.out).below (KB.alloc (Below.refl _ _) _ : Below y2.at.heap.size y2.at _)).below hU3).below z.bel)
  have OW := Lib.hid (fun z : Wb U3 => (((OW1.out).below (KB.alloc (Below.refl _ _) _ : Below y2.at.heap.size y2.at _)).below hU3).below z.bel)
  clear hU3
  have c_o_0 : ∀ z : Wb U3, z.at.cell? ⟨w.heap.size, 0, none⟩ = some (.bool ob) := fun z => (r_o z).cell 0
  have c_o_1 : ∀ z : Wb U3, z.at.cell? ⟨w.heap.size, 1, none⟩ = some (.int .u64 (K : Int)) := fun z => (r_o z).cell 1
  have c_o_2 : ∀ z : Wb U3, z.at.cell? ⟨w.heap.size, 2, none⟩ = some (.int .i64 V) := fun z => (r_o z).cell 2
  have c_m_0 : ∀ z : Wb U3, z.at.cell? ⟨y2.at.heap.size, 0, none⟩ = some (.pointer p) := fun z => (r_m z).cell 0
  have c_m_1 : ∀ z : Wb U3, z.at.cell? ⟨y2.at.heap.size, 1, none⟩ = some (.int .i64 n) := fun z => (r_m z).cell 1
  obtain ⟨mA, hmA⟩ : ∃ b, b = y2.at.heap.size := ⟨_, rfl⟩
  rw [← hmA] at r_m c_m_0 c_m_1
  simp only [← hmA]
  clear hmA
  clear MA1 OW1
  go_wp2_with fail
  refine (MI.With_any p n t K V y3.at (MA.out y3) HK.out (by have := NL.out; omega)).mono ?_
  rintro e w1 ⟨pa, na, rfl, g, ma⟩
  obtain ⟨y4, rfl⟩ := Wb.next (x := y3) g
  clear g
  have MA1 := Lib.hid ma
  clear ma
  go_upto_region 5 with fail
  refine to_cls ?_
  intro U5 hU5 y5
  clear c_o_0 c_o_1 c_o_2 c_m_0 c_m_1
  have r_o : ∀ z : Wb U5, Row z.at (w.heap.size) [.bool ob, .int .u64 (K : Int), .int .i64 V] 79 := Row.next ((r_o y4).old _) hU5
  have r_m : ∀ z : Wb U5, Row z.at (mA) [.pointer p, .int .i64 n] 69 := Row.next ((r_m y4).old _) hU5
  have r_a : ∀ z : Wb U5, Row z.at (y4.at.heap.size) [.pointer pa, .int .i64 na] 69 := Row.next (Row.new _ [.pointer pa, .int .i64 na] _) hU5
  have KK := Lib.hid (KB.next (KB.alloc (KK.out y4) _) hU5)
  have MA := Lib.hid (fun z : Wb U5 => (((MA.out y4).below (KB.alloc (Below.refl _ _) _ : Below y4.at.heap.size y4.at _)).below hU5).below z.bel)
  have OW := Lib.hid (fun z : Wb U5 => (((OW.out y4).below (KB.alloc (Below.refl _ _) _ : Below y4.at.heap.size y4.at _)).below hU5).below z.bel)
  have AA := Lib.hid (fun z : Wb U5 => (((MA1.out).below (KB.alloc (Below.refl _ _) _ : Below y4.at.heap.size y4.at _)).below hU5).below z.bel)
  clear hU5
  have c_o_0 : ∀ z : Wb U5, z.at.cell? ⟨w.heap.size, 0, none⟩ = some (.bool ob) := fun z => (r_o z).cell 0
  have c_o_1 : ∀ z : Wb U5, z.at.cell? ⟨w.heap.size, 1, none⟩ = some (.int .u64 (K : Int)) := fun z => (r_o z).cell 1
  have c_o_2 : ∀ z : Wb U5, z.at.cell? ⟨w.heap.size, 2, none⟩ = some (.int .i64 V) := fun z => (r_o z).cell 2
  have c_m_0 : ∀ z : Wb U5, z.at.cell? ⟨mA, 0, none⟩ = some (.pointer p) := fun z => (r_m z).cell 0
  have c_m_1 : ∀ z : Wb U5, z.at.cell? ⟨mA, 1, none⟩ = some (.int .i64 n) := fun z => (r_m z).cell 1
  have c_a_0 : ∀ z : Wb U5, z.at.cell? ⟨y4.at.heap.size, 0, none⟩ = some (.pointer pa) := fun z => (r_a z).cell 0
  have c_a_1 : ∀ z : Wb U5, z.at.cell? ⟨y4.at.heap.size, 1, none⟩ = some (.int .i64 na) := fun z => (r_a z).cell 1
  obtain ⟨aA, haA⟩ : ∃ b, b = y4.at.heap.size := ⟨_, rfl⟩
  rw [← haA] at r_a c_a_0 c_a_1
  simp only [← haA]
  clear haA
  clear MA1
  go_wp2_with fail
  refine (MI.Without_any p n t K y5.at (MA.out y5) HK.out (by have := NL.out; omega)).mono ?_
  rintro e w1 ⟨pb, nb, rfl, g, ma⟩
  obtain ⟨y6, rfl⟩ := Wb.next (x := y5) g
  clear g
  have MA1 := Lib.hid ma
  clear ma
  go_upto_region 6 with fail
  refine to_cls ?_
  intro U7 hU7 y7
  clear c_o_0 c_o_1 c_o_2 c_m_0 c_m_1 c_a_0 c_a_1
  have r_o : ∀ z : Wb U7, Row z.at (w.heap.size) [.bool ob, .int .u64 (K : Int), .int .i64 V] 79 := Row.next ((r_o y6).old _) hU7
  have r_m : ∀ z : Wb U7, Row z.at (mA) [.pointer p, .int .i64 n] 69 := Row.next ((r_m y6).old _) hU7
  have r_a : ∀ z : Wb U7, Row z.at (aA) [.pointer pa, .int .i64 na] 69 := Row.next ((r_a y6).old _) hU7
  have r_b : ∀ z : Wb U7, Row z.at (y6.at.heap.size) [.pointer pb, .int .i64 nb] 69 := Row.next (Row.new _ [.pointer pb, .int .i64 nb] _) hU7
  have KK := Lib.hid (KB.next (KB.alloc (KK.out y6) _) hU7)
  have MA := Lib.hid (fun z : Wb U7 => (((MA.out y6).below (KB.alloc (Below.refl _ _) _ : Below y6.at.heap.size y6.at _)).below hU7).below z.bel)
  have OW := Lib.hid (fun z : Wb U7 => (((OW.out y6).below (KB.alloc (Below.refl _ _) _ : Below y6.at.heap.size y6.at _)).below hU7).below z.bel)
  have AA := Lib.hid (fun z : Wb U7 => (((AA.out y6).below (KB.alloc (Below.refl _ _) _ : Below y6.at.heap.size y6.at _)).below hU7).below z.bel)
  have AB := Lib.hid (fun z : Wb U7 => (((MA1.out).below (KB.alloc (Below.refl _ _) _ : Below y6.at.heap.size y6.at _)).below hU7).below z.bel)
  clear hU7
  have c_o_0 : ∀ z : Wb U7, z.at.cell? ⟨w.heap.size, 0, none⟩ = some (.bool ob) := fun z => (r_o z).cell 0
  have c_o_1 : ∀ z : Wb U7, z.at.cell? ⟨w.heap.size, 1, none⟩ = some (.int .u64 (K : Int)) := fun z => (r_o z).cell 1
  have c_o_2 : ∀ z : Wb U7, z.at.cell? ⟨w.heap.size, 2, none⟩ = some (.int .i64 V) := fun z => (r_o z).cell 2
  have c_m_0 : ∀ z : Wb U7, z.at.cell? ⟨mA, 0, none⟩ = some (.pointer p) := fun z => (r_m z).cell 0
  have c_m_1 : ∀ z : Wb U7, z.at.cell? ⟨mA, 1, none⟩ = some (.int .i64 n) := fun z => (r_m z).cell 1
  have c_a_0 : ∀ z : Wb U7, z.at.cell? ⟨aA, 0, none⟩ = some (.pointer pa) := fun z => (r_a z).cell 0
  have c_a_1 : ∀ z : Wb U7, z.at.cell? ⟨aA, 1, none⟩ = some (.int .i64 na) := fun z => (r_a z).cell 1
  have c_b_0 : ∀ z : Wb U7, z.at.cell? ⟨y6.at.heap.size, 0, none⟩ = some (.pointer pb) := fun z => (r_b z).cell 0
  have c_b_1 : ∀ z : Wb U7, z.at.cell? ⟨y6.at.heap.size, 1, none⟩ = some (.int .i64 nb) := fun z => (r_b z).cell 1
  obtain ⟨bA, hbA⟩ : ∃ b, b = y6.at.heap.size := ⟨_, rfl⟩
  rw [← hbA] at r_b c_b_0 c_b_1
  simp only [← hbA]
  clear hbA
  clear MA1
  have RA := Lib.hid (RL.out.win WT.out HK.out V)
  have RB := Lib.hid (RL.out.wit WT.out K)
  have AL := Lib.hid (winL_len L K V)
  have WA := Lib.hid (AA.out y7).wf
  have NA := Lib.hid (show na ≤ 61 by rw [(AA.out y7).n, relM_len RA.out WA.out]; have := LL.out; have := AL.out; omega)
  obtain ⟨K1, hK1⟩ : ∃ K1, K1 = (K + 1) % 18446744073709551616 := ⟨_, rfl⟩
  have K1B := Lib.hid (show K1 < 18446744073709551616 by rw [hK1]; exact Nat.mod_lt _ (by decide))
  have BL := Lib.hid (witL_len L K)
  have RC1 := Lib.hid (RA.out.win WA.out K1B.out 77)
  have CL1 := Lib.hid (winL_len (winL L K V) K1 77)
  refine to_pt ?_
  intro U8 hU8
  clear c_o_0 c_o_1 c_o_2 c_m_0 c_m_1 c_a_0 c_a_1 c_b_0 c_b_1
  have r_o : ∀ z : Wb U8, Row z.at (w.heap.size) [.bool ob, .int .u64 (K : Int), .int .i64 V] 79 := Row.next ((r_o y7)) hU8
  have r_m : ∀ z : Wb U8, Row z.at (mA) [.pointer p, .int .i64 n] 69 := Row.next ((r_m y7)) hU8
  have r_a : ∀ z : Wb U8, Row z.at (aA) [.pointer pa, .int .i64 na] 69 := Row.next ((r_a y7)) hU8
  have r_b : ∀ z : Wb U8, Row z.at (bA) [.pointer pb, .int .i64 nb] 69 := Row.next ((r_b y7)) hU8
  have KK := Lib.hid (KB.next (KK.out y7) hU8)
  have MA := Lib.hid (fun z : Wb U8 => ((MA.out y7).below hU8).below z.bel)
  have OW := Lib.hid (fun z : Wb U8 => ((OW.out y7).below hU8).below z.bel)
  have AA := Lib.hid (fun z : Wb U8 => ((AA.out y7).below hU8).below z.bel)
  have AB := Lib.hid (fun z : Wb U8 => ((AB.out y7).below hU8).below z.bel)
  clear hU8
  have c_o_0 : ∀ z : Wb U8, z.at.cell? ⟨w.heap.size, 0, none⟩ = some (.bool ob) := fun z => (r_o z).cell 0
  have c_o_1 : ∀ z : Wb U8, z.at.cell? ⟨w.heap.size, 1, none⟩ = some (.int .u64 (K : Int)) := fun z => (r_o z).cell 1
  have c_o_2 : ∀ z : Wb U8, z.at.cell? ⟨w.heap.size, 2, none⟩ = some (.int .i64 V) := fun z => (r_o z).cell 2
  have c_m_0 : ∀ z : Wb U8, z.at.cell? ⟨mA, 0, none⟩ = some (.pointer p) := fun z => (r_m z).cell 0
  have c_m_1 : ∀ z : Wb U8, z.at.cell? ⟨mA, 1, none⟩ = some (.int .i64 n) := fun z => (r_m z).cell 1
  have c_a_0 : ∀ z : Wb U8, z.at.cell? ⟨aA, 0, none⟩ = some (.pointer pa) := fun z => (r_a z).cell 0
  have c_a_1 : ∀ z : Wb U8, z.at.cell? ⟨aA, 1, none⟩ = some (.int .i64 na) := fun z => (r_a z).cell 1
  have c_b_0 : ∀ z : Wb U8, z.at.cell? ⟨bA, 0, none⟩ = some (.pointer pb) := fun z => (r_b z).cell 0
  have c_b_1 : ∀ z : Wb U8, z.at.cell? ⟨bA, 1, none⟩ = some (.int .i64 nb) := fun z => (r_b z).cell 1
  have WR : IntKind.u64.wrap ((K : Int) + 1) = (K1 : Int) := by rw [hK1]; simp [IntKind.wrap, IntKind.signed, IntKind.bits]
  clear hK1
  have SS := Lib.hid (fun z : Wb U8 => (show z.at.cell? ⟨aA, 0, none⟩ = some (.pointer pa) ∧ z.at.cell? ⟨aA, 1, none⟩ = some (.int .i64 na) ∧ z.at.cell? ⟨w.heap.size, 1, none⟩ = some (.int .u64 (K : Int)) from ⟨c_a_0 z, c_a_1 z, c_o_1 z⟩))
  have D0 := Lib.hid (show Below U8.heap.size U8 U8.drew from (Below.refl _ _).drew)
  have S0 := Lib.hid (SS.out ⟨_, D0.out⟩)
  clear c_o_0 c_o_1 c_o_2 c_m_0 c_m_1 c_a_0 c_a_1 c_b_0 c_b_1
  have D1 := Lib.hid (show Below U8.heap.size U8 (U8.alloc (.cells #[.pointer none, .int .i64 0] 69)).drew from (KB.alloc (Below.refl _ _) _).drew)
  have RN := Lib.hid (show Row (U8.alloc (.cells #[.pointer none, .int .i64 0] 69)).drew U8.heap.size [.pointer none, .int .i64 0] 69 from Row.drew (Row.new' _ [.pointer none, .int .i64 0] _ _ rfl))
  have A0 := Lib.hid (show MI.MAt U8.drew pa na _ from AA.out ⟨_, D0.out⟩)
  have A1 := Lib.hid (show MI.MAt (U8.alloc (.cells #[.pointer none, .int .i64 0] 69)).drew pa na _ from AA.out ⟨_, D1.out⟩)
  go_region_held3 (fun w' => w'.cell? ⟨aA, 0, none⟩ = some (.pointer pa) ∧ w'.cell? ⟨aA, 1, none⟩ = some (.int .i64 na) ∧ w'.cell? ⟨w.heap.size, 1, none⟩ = some (.int .u64 (K : Int)))
    (first | exact S0.out | exact S4.out | exact S3.out | exact SS.out ⟨_, D1.out⟩ | exact SS.out ⟨_, KB.alloc X3.out _⟩ | exact SS.out ⟨_, KB.alloc X4.out _⟩ | exact SS.out ⟨_, KB.put (KB.put X4.out b4.out 0 _) b4.out 1 _⟩ | exact SS.out ⟨_, KB.put (KB.put (KB.alloc X4.out _) X4.out.size 0 _) X4.out.size 1 _⟩)
    (first
      | (go_at_call 36; (with_reducible refine (MI.With_any pa na (some (insO t K V)) K1 77 U8.drew A0.out K1B.out (by have := NA.out; omega)).mono ?_); rintro e w3 ⟨p3, n3, rfl, g3, ma3⟩; have M3 := Lib.hid ma3; have WC1 := Lib.hid ma3.wf; have N3 := Lib.hid (show n3 ≤ 62 by rw [ma3.n, relM_len RC1.out ma3.wf]; have := LL.out; have := AL.out; have := CL1.out; omega); have X3 := Lib.hid (show Below U8.heap.size U8 w3 from (D0.out).trans (g3.mono (D0.out).size)); have S3 := Lib.hid (SS.out ⟨w3, X3.out⟩); clear g3 ma3)
      | (go_at_call 36; (with_reducible refine (MI.With_any pa na (some (insO t K V)) K1 77 (U8.alloc (.cells #[.pointer none, .int .i64 0] 69)).drew A1.out K1B.out (by have := NA.out; omega)).mono ?_); rintro e w3 ⟨p3, n3, rfl, g3, ma3⟩; have M3 := Lib.hid ma3; have WC1 := Lib.hid ma3.wf; have N3 := Lib.hid (show n3 ≤ 62 by rw [ma3.n, relM_len RC1.out ma3.wf]; have := LL.out; have := AL.out; have := CL1.out; omega); have X3 := Lib.hid (show Below U8.heap.size U8 w3 from (D1.out).trans (g3.mono (D1.out).size)); have S3 := Lib.hid (SS.out ⟨w3, X3.out⟩); have R3 := Lib.hid (RN.out.below g3); clear g3 ma3)
      | (go_at_call 37; (with_reducible refine (MI.Without_any p3 n3 _ K w3 M3.out HK.out (by have := N3.out; omega)).mono ?_); rintro e w4 ⟨p4, n4, rfl, g4, ma4⟩; have M4 := Lib.hid ma4; have X4 := Lib.hid (show Below U8.heap.size U8 w4 from (X3.out).trans (g4.mono (X3.out).size)); have S4 := Lib.hid (SS.out ⟨w4, X4.out⟩); have R4 := Lib.hid (R3.out.below g4); have b4 := Lib.hid (Nat.le_refl U8.heap.size); have q0 := R4.out.cell 0; have q1 := R4.out.cell 1; have fq := R4.out.free; clear g4 ma4)
      | (go_at_call 37; (with_reducible refine (MI.Without_any p3 n3 _ K (w3.alloc (.cells #[.pointer none, .int .i64 0] 69)) (M3.out.below (KB.alloc (Below.refl _ _) (.cells #[.pointer none, .int .i64 0] 69))) HK.out (by have := N3.out; omega)).mono ?_); rintro e w4 ⟨p4, n4, rfl, g4, ma4⟩; have M4 := Lib.hid ma4; have X4 := Lib.hid (show Below U8.heap.size U8 w4 from (KB.alloc X3.out (.cells #[.pointer none, .int .i64 0] 69)).trans (g4.mono (KB.alloc X3.out (.cells #[.pointer none, .int .i64 0] 69)).size)); have S4 := Lib.hid (SS.out ⟨w4, X4.out⟩); have R4 := Lib.hid ((Row.new w3 [.pointer none, .int .i64 0] 69).below g4); have b4 := Lib.hid X3.out.size; have q0 := R4.out.cell 0; have q1 := R4.out.cell 1; have fq := R4.out.free; clear g4 ma4)
      | (go_at_call 37; (with_reducible refine (MI.Without_any p3 n3 _ K w3 M3.out HK.out (by have := N3.out; omega)).mono ?_); rintro e w4 ⟨p4, n4, rfl, g4, ma4⟩; have M4 := Lib.hid ma4; have X4 := Lib.hid (show Below U8.heap.size U8 w4 from (X3.out).trans (g4.mono (X3.out).size)); have S4 := Lib.hid (SS.out ⟨w4, X4.out⟩); clear g4 ma4))
  all_goals go_upto_region 7 with fail
  all_goals first
    | (obtain ⟨W9, hW9⟩ : ∃ W, W = w4.alloc (.cells #[.pointer p4, .int .i64 n4] 69) := ⟨_, rfl⟩; rw [← hW9]; obtain ⟨cA, hcA⟩ : ∃ b, b = w4.heap.size := ⟨_, rfl⟩; have R9 := Lib.hid (show Row W9 cA [.pointer p4, .int .i64 n4] 69 by rw [hW9, hcA]; exact Row.new _ [.pointer p4, .int .i64 n4] _); have X9 := Lib.hid (show Below U8.heap.size U8 W9 by rw [hW9]; exact KB.alloc X4.out _); have M9 := Lib.hid (show MI.MAt W9 p4 n4 (delO (some (insO (some (insO t K V)) K1 77)) K) by rw [hW9]; exact M4.out.below (KB.alloc (Below.refl _ _) _)); rw [← hcA]; clear hW9 hcA)
    | (obtain ⟨W9, hW9⟩ : ∃ W, W = ((w4.setCell ⟨w3.heap.size, 0, none⟩ (.pointer p4)).setCell ⟨w3.heap.size, 1, none⟩ (.int .i64 n4)) := ⟨_, rfl⟩; rw [← hW9]; obtain ⟨cA, hcA⟩ : ∃ b, b = w3.heap.size := ⟨_, rfl⟩; have R9 := Lib.hid (show Row W9 cA [.pointer p4, .int .i64 n4] 69 by rw [hW9, hcA]; exact ((R4.out.set 0 _).set 1 _)); have X9 := Lib.hid (show Below U8.heap.size U8 W9 by rw [hW9]; exact KB.put (KB.put X4.out b4.out 0 _) b4.out 1 _); have M9 := Lib.hid (show MI.MAt W9 p4 n4 (delO (some (insO (some (insO t K V)) K1 77)) K) by rw [hW9]; exact (M4.out.set R4.out (by simp) 0 _).set (R4.out.set 0 _) (by simp) 1 _); rw [← hcA]; clear hW9 hcA)
    | (obtain ⟨W9, hW9⟩ : ∃ W, W = ((w4.setCell ⟨U8.heap.size, 0, none⟩ (.pointer p4)).setCell ⟨U8.heap.size, 1, none⟩ (.int .i64 n4)) := ⟨_, rfl⟩; rw [← hW9]; obtain ⟨cA, hcA⟩ : ∃ b, b = U8.heap.size := ⟨_, rfl⟩; have R9 := Lib.hid (show Row W9 cA [.pointer p4, .int .i64 n4] 69 by rw [hW9, hcA]; exact ((R4.out.set 0 _).set 1 _)); have X9 := Lib.hid (show Below U8.heap.size U8 W9 by rw [hW9]; exact KB.put (KB.put X4.out b4.out 0 _) b4.out 1 _); have M9 := Lib.hid (show MI.MAt W9 p4 n4 (delO (some (insO (some (insO t K V)) K1 77)) K) by rw [hW9]; exact (M4.out.set R4.out (by simp) 0 _).set (R4.out.set 0 _) (by simp) 1 _); rw [← hcA]; clear hW9 hcA)
  all_goals
    refine to_cls ?_
    intro U9 hU9 y9
    have r_o : ∀ z : Wb U9, Row z.at (w.heap.size) [.bool ob, .int .u64 (K : Int), .int .i64 V] 79 := Row.next (V := W9) (r_o (⟨W9, X9.out⟩ : Wb U8)) hU9
    have r_m : ∀ z : Wb U9, Row z.at (mA) [.pointer p, .int .i64 n] 69 := Row.next (V := W9) (r_m (⟨W9, X9.out⟩ : Wb U8)) hU9
    have r_a : ∀ z : Wb U9, Row z.at (aA) [.pointer pa, .int .i64 na] 69 := Row.next (V := W9) (r_a (⟨W9, X9.out⟩ : Wb U8)) hU9
    have r_b : ∀ z : Wb U9, Row z.at (bA) [.pointer pb, .int .i64 nb] 69 := Row.next (V := W9) (r_b (⟨W9, X9.out⟩ : Wb U8)) hU9
    have r_c : ∀ z : Wb U9, Row z.at (cA) [.pointer p4, .int .i64 n4] 69 := Row.next (V := W9) (R9.out) hU9
    have KK := Lib.hid (KB.next (KK.out (⟨W9, X9.out⟩ : Wb U8)) hU9)
    have MA := Lib.hid (fun z : Wb U9 => ((show MI.MAt W9 p n t from MA.out (⟨W9, X9.out⟩ : Wb U8)).below hU9).below z.bel)
    have OW := Lib.hid (fun z : Wb U9 => ((show SlM W9 lv L from OW.out (⟨W9, X9.out⟩ : Wb U8)).below hU9).below z.bel)
    have AA := Lib.hid (fun z : Wb U9 => ((show MI.MAt W9 pa na (some (insO t K V)) from AA.out (⟨W9, X9.out⟩ : Wb U8)).below hU9).below z.bel)
    have AB := Lib.hid (fun z : Wb U9 => ((show MI.MAt W9 pb nb (delO t K) from AB.out (⟨W9, X9.out⟩ : Wb U8)).below hU9).below z.bel)
    have AC := Lib.hid (fun z : Wb U9 => ((M9.out).below hU9).below z.bel)
    clear hU9
    have c_o_0 : ∀ z : Wb U9, z.at.cell? ⟨w.heap.size, 0, none⟩ = some (.bool ob) := fun z => (r_o z).cell 0
    have c_o_1 : ∀ z : Wb U9, z.at.cell? ⟨w.heap.size, 1, none⟩ = some (.int .u64 (K : Int)) := fun z => (r_o z).cell 1
    have c_o_2 : ∀ z : Wb U9, z.at.cell? ⟨w.heap.size, 2, none⟩ = some (.int .i64 V) := fun z => (r_o z).cell 2
    have c_m_0 : ∀ z : Wb U9, z.at.cell? ⟨mA, 0, none⟩ = some (.pointer p) := fun z => (r_m z).cell 0
    have c_m_1 : ∀ z : Wb U9, z.at.cell? ⟨mA, 1, none⟩ = some (.int .i64 n) := fun z => (r_m z).cell 1
    have c_a_0 : ∀ z : Wb U9, z.at.cell? ⟨aA, 0, none⟩ = some (.pointer pa) := fun z => (r_a z).cell 0
    have c_a_1 : ∀ z : Wb U9, z.at.cell? ⟨aA, 1, none⟩ = some (.int .i64 na) := fun z => (r_a z).cell 1
    have c_b_0 : ∀ z : Wb U9, z.at.cell? ⟨bA, 0, none⟩ = some (.pointer pb) := fun z => (r_b z).cell 0
    have c_b_1 : ∀ z : Wb U9, z.at.cell? ⟨bA, 1, none⟩ = some (.int .i64 nb) := fun z => (r_b z).cell 1
    have c_c_0 : ∀ z : Wb U9, z.at.cell? ⟨cA, 0, none⟩ = some (.pointer p4) := fun z => (r_c z).cell 0
    have c_c_1 : ∀ z : Wb U9, z.at.cell? ⟨cA, 1, none⟩ = some (.int .i64 n4) := fun z => (r_c z).cell 1
    have GA := Lib.hid (fun z : Wb U9 => MI.mget_any pa na (some (insO t K V)) K z.at (AA.out z) HK.out)
    rw [show lookO (some (insO t K V)) K = some V from by rw [RA.out.look]; exact assoc_win L K V] at GA
    simp only [MI.getV] at GA
    have GB := Lib.hid (fun z : Wb U9 => MI.mget_any pb nb (delO t K) K z.at (AB.out z) HK.out)
    rw [show lookO (delO t K) K = none from by rw [RB.out.look]; exact assoc_wit_no L K] at GB
    simp only [MI.getV] at GB
    have GC := Lib.hid (fun z : Wb U9 => MI.mget_any p4 n4 (delO (some (insO (some (insO t K V)) K1 77)) K) K z.at (AC.out z) HK.out)
    rw [show lookO (delO (some (insO (some (insO t K V)) K1 77)) K) K = none from by rw [(RC1.out.wit WC1.out K).look]; exact assoc_wit_no _ K] at GC
    simp only [MI.getV] at GC
    go_wp2_with fail
    refine (GA.out y9).mono ?_
    rintro e w1 ⟨rfl, g⟩
    obtain ⟨y10, rfl⟩ := Wb.next (x := y9) g
    clear g
    go_wp2_with fail
    refine (GB.out y10).mono ?_
    rintro e w1 ⟨rfl, g⟩
    obtain ⟨y11, rfl⟩ := Wb.next (x := y10) g
    clear g
    go_wp2_with fail
    refine (GC.out y11).mono ?_
    rintro e w1 ⟨rfl, g⟩
    obtain ⟨y12, rfl⟩ := Wb.next (x := y11) g
    clear g
    go_upto_region 10 with fail
    refine to_pt ?_
    intro U13 hU13
    clear c_o_0 c_o_1 c_o_2 c_m_0 c_m_1 c_a_0 c_a_1 c_b_0 c_b_1 c_c_0 c_c_1
    have r_o : ∀ z : Wb U13, Row z.at (w.heap.size) [.bool ob, .int .u64 (K : Int), .int .i64 V] 79 := Row.next (r_o y12) hU13
    have r_m : ∀ z : Wb U13, Row z.at (mA) [.pointer p, .int .i64 n] 69 := Row.next (r_m y12) hU13
    have r_a : ∀ z : Wb U13, Row z.at (aA) [.pointer pa, .int .i64 na] 69 := Row.next (r_a y12) hU13
    have r_b : ∀ z : Wb U13, Row z.at (bA) [.pointer pb, .int .i64 nb] 69 := Row.next (r_b y12) hU13
    have r_c : ∀ z : Wb U13, Row z.at (cA) [.pointer p4, .int .i64 n4] 69 := Row.next (r_c y12) hU13
    have KK := Lib.hid (KB.next (KK.out y12) hU13)
    have MA := Lib.hid (fun z : Wb U13 => ((MA.out y12).below hU13).below z.bel)
    have OW := Lib.hid (fun z : Wb U13 => ((OW.out y12).below hU13).below z.bel)
    have AA := Lib.hid (fun z : Wb U13 => ((AA.out y12).below hU13).below z.bel)
    have AB := Lib.hid (fun z : Wb U13 => ((AB.out y12).below hU13).below z.bel)
    clear hU13
    have c_o_0 : ∀ z : Wb U13, z.at.cell? ⟨w.heap.size, 0, none⟩ = some (.bool ob) := fun z => (r_o z).cell 0
    have c_o_1 : ∀ z : Wb U13, z.at.cell? ⟨w.heap.size, 1, none⟩ = some (.int .u64 (K : Int)) := fun z => (r_o z).cell 1
    have c_o_2 : ∀ z : Wb U13, z.at.cell? ⟨w.heap.size, 2, none⟩ = some (.int .i64 V) := fun z => (r_o z).cell 2
    have c_m_0 : ∀ z : Wb U13, z.at.cell? ⟨mA, 0, none⟩ = some (.pointer p) := fun z => (r_m z).cell 0
    have c_m_1 : ∀ z : Wb U13, z.at.cell? ⟨mA, 1, none⟩ = some (.int .i64 n) := fun z => (r_m z).cell 1
    have c_a_0 : ∀ z : Wb U13, z.at.cell? ⟨aA, 0, none⟩ = some (.pointer pa) := fun z => (r_a z).cell 0
    have c_a_1 : ∀ z : Wb U13, z.at.cell? ⟨aA, 1, none⟩ = some (.int .i64 na) := fun z => (r_a z).cell 1
    have c_b_0 : ∀ z : Wb U13, z.at.cell? ⟨bA, 0, none⟩ = some (.pointer pb) := fun z => (r_b z).cell 0
    have c_b_1 : ∀ z : Wb U13, z.at.cell? ⟨bA, 1, none⟩ = some (.int .i64 nb) := fun z => (r_b z).cell 1
    have c_c_0 : ∀ z : Wb U13, z.at.cell? ⟨cA, 0, none⟩ = some (.pointer p4) := fun z => (r_c z).cell 0
    have c_c_1 : ∀ z : Wb U13, z.at.cell? ⟨cA, 1, none⟩ = some (.int .i64 n4) := fun z => (r_c z).cell 1
    have SS := Lib.hid (fun z : Wb U13 => (show z.at.cell? ⟨mA, 0, none⟩ = some (.pointer p) ∧ z.at.cell? ⟨mA, 1, none⟩ = some (.int .i64 n) ∧ z.at.cell? ⟨aA, 0, none⟩ = some (.pointer pa) ∧ z.at.cell? ⟨aA, 1, none⟩ = some (.int .i64 na) ∧ z.at.cell? ⟨bA, 0, none⟩ = some (.pointer pb) ∧ z.at.cell? ⟨bA, 1, none⟩ = some (.int .i64 nb) ∧ z.at.cell? ⟨w.heap.size, 1, none⟩ = some (.int .u64 (K : Int)) ∧ z.at.cell? ⟨w.heap.size, 2, none⟩ = some (.int .i64 V) from ⟨c_m_0 z, c_m_1 z, c_a_0 z, c_a_1 z, c_b_0 z, c_b_1 z, c_o_1 z, c_o_2 z⟩))
    clear c_o_0 c_o_1 c_o_2 c_m_0 c_m_1 c_a_0 c_a_1 c_b_0 c_b_1 c_c_0 c_c_1
    have D0 := Lib.hid (show Below U13.heap.size U13 U13.drew from (Below.refl _ _).drew)
    have S0 := Lib.hid (SS.out ⟨_, D0.out⟩)
    have IS1 := Lib.hid (is_any p n t lv L U13.drew (MA.out ⟨_, D0.out⟩) (OW.out ⟨_, D0.out⟩) RL.out (by have := LL.out; omega))
    go_region_held3 (fun w' => w'.cell? ⟨mA, 0, none⟩ = some (.pointer p) ∧ w'.cell? ⟨mA, 1, none⟩ = some (.int .i64 n) ∧ w'.cell? ⟨aA, 0, none⟩ = some (.pointer pa) ∧ w'.cell? ⟨aA, 1, none⟩ = some (.int .i64 na) ∧ w'.cell? ⟨bA, 0, none⟩ = some (.pointer pb) ∧ w'.cell? ⟨bA, 1, none⟩ = some (.int .i64 nb) ∧ w'.cell? ⟨w.heap.size, 1, none⟩ = some (.int .u64 (K : Int)) ∧ w'.cell? ⟨w.heap.size, 2, none⟩ = some (.int .i64 V))
      (first | exact S0.out | exact S5.out | exact S6.out | exact S7.out | exact S8.out | exact S10.out)
      (first
        | (go_at_call 35; (with_reducible refine IS1.out.mono ?_); rintro e w5 ⟨rfl, g⟩; have X5 := Lib.hid (show Below U13.heap.size U13 w5 from D0.out.trans (g.mono D0.out.size)); have S5 := Lib.hid (SS.out ⟨w5, X5.out⟩); have PW := Lib.hid (pwith_any lv L K V w5 (OW.out ⟨w5, X5.out⟩) (by have := LL.out; omega)); clear g )
        | (go_at_call 38; (with_reducible refine PW.out.mono ?_); rintro e w6 ⟨v6, rfl, o6, g⟩; have X6 := Lib.hid (show Below U13.heap.size U13 w6 from X5.out.trans (g.mono X5.out.size)); have S6 := Lib.hid (SS.out ⟨w6, X6.out⟩); have IS2 := Lib.hid (is_any pa na _ v6 (winL L K V) w6 (AA.out ⟨w6, X6.out⟩) (SlAt.own o6) RA.out (by have := LL.out; have := AL.out; omega)); clear g o6)
        | (go_at_call 35; (with_reducible refine IS2.out.mono ?_); rintro e w7 ⟨rfl, g⟩; have X7 := Lib.hid (show Below U13.heap.size U13 w7 from X6.out.trans (g.mono X6.out.size)); have S7 := Lib.hid (SS.out ⟨w7, X7.out⟩); have PO := Lib.hid (pwithout_any lv L K w7 (OW.out ⟨w7, X7.out⟩) (by have := LL.out; omega)); clear g )
        | (go_at_call 39; (with_reducible refine PO.out.mono ?_); rintro e w8 ⟨v8, rfl, o8, g⟩; have X8 := Lib.hid (show Below U13.heap.size U13 w8 from X7.out.trans (g.mono X7.out.size)); have S8 := Lib.hid (SS.out ⟨w8, X8.out⟩); have IS3 := Lib.hid (is_any pb nb _ v8 (witL L K) w8 (AB.out ⟨w8, X8.out⟩) (SlAt.own o8) RB.out (by have := LL.out; have := BL.out; omega)); clear g o8)
        | (go_at_call 35; (with_reducible refine IS3.out.mono ?_); rintro e w10 ⟨rfl, g⟩; have X10 := Lib.hid (show Below U13.heap.size U13 w10 from X8.out.trans (g.mono X8.out.size)); have S10 := Lib.hid (SS.out ⟨w10, X10.out⟩); clear g ))
    all_goals
      go_wp2
      go_ret
      exact ⟨by first | rfl | simp, KK.out ⟨w10, X10.out⟩⟩
theorem StoreKeeps_rows (v : Value) (n : Nat) (R : Nat → List Value) (ob : Bool) (a V : Int) (w : World) (s : SlAt w v 3 n ((List.range n).flatMap R)) (g : ∀ i, i < n → ∃ q : Bool × Nat × Int, R i = [.bool q.1, .int .u64 (q.2.1 : Int), .int .i64 q.2.2] ∧ q.2.1 < 18446744073709551616) (a0 : 0 ≤ a) (a1 : a < 18446744073709551616) :
    Calls Try.prog 9 #[v, .agg #[.bool ob, .int .u64 a, .int .i64 V]] w fun e w' => e = .returned (.bool true) ∧ Below w.heap.size w w' := by
  obtain ⟨S, hS, hB⟩ := SlO_rows s g
  obtain ⟨k, rfl⟩ : ∃ k : Nat, a = (k : Int) := ⟨a.toNat, by omega⟩
  exact StoreKeeps_walk v S ob k V w hS hB (by omega)
end Go.Proofs.Ytnpgpbcpgniloaa
