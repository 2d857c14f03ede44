/-
  Layer 9, the laws' walks: TlbSingle.
-/
import Derived.Test.YteiokenijmaloaaUs
import Derived.Test.YteiokenijmaloaaUk
import Derived.Test.YteiokenijmaloaaTf
set_option linter.unusedSimpArgs false
set_option linter.unusedVariables false
namespace Go.Proofs.Yteiokenijmaloaa
open Go.RowKit GrT

theorem meets_symm (a b : E) : meets a b = meets b a := by
  unfold meets
  rw [Bool.or_comm (covers a b.page), Bool.or_comm (!own a), show (a.space == b.space) = (b.space == a.space) from Bool.beq_comm]
theorem apart_one {L : List E} (hs : ∀ e ∈ L, selfs e) : Apart L ↔ OneAll L := by
  unfold Apart OneAll cnt
  rw [← single_iff hs]
  constructor
  · exact fun h => h.imp fun {x y} e => by rw [meets_symm]; exact e
  · exact fun h => h.imp fun {x y} e => by rw [meets_symm]; exact e
theorem fill_bd {s va f l : Int} (h : EB ⟨s, va, f, l⟩) : EB (fillE s va f l) := by
  obtain ⟨h1, h2, h3⟩ := h
  simp only at h1 h2 h3
  unfold fillE
  split
  · split
    · exact ⟨GrF.down_bd _ _, h2, by simp⟩
    · exact ⟨GrF.down_bd _ _, h2, h3⟩
  · exact ⟨by simp, by simp, by simp⟩
theorem says_eq {b c : Bool} {P Q : Prop} (h : b = true ↔ P) (k : c = true ↔ Q) (e : P ↔ Q) : (b == c) = true := by
  have x : b = true ↔ c = true := h.trans (e.trans k.symm)
  cases b <;> cases c <;> simp at x ⊢

set_option maxRecDepth 100000 in
set_option maxHeartbeats 12800000 in
theorem TlbSingle_walk (v : Value) (S : List E) (w : World) (h : SlE w v S) (hbd : LB S) :
    Calls Try.prog 7 #[v] w fun e w' => e = .returned (.bool true) ∧ Below w.heap.size w w' := by
  have AW := Lib.hid (fun w => tawake_any w)
  obtain ⟨p, n, c, rfl⟩ := SlAt.form h
  have HN := Lib.hid h.len
  have HS := Lib.hid h
  have HB := Lib.hid hbd
  clear h hbd
  go_enter Try.func7, Try.ntmps7
  go_wp2_with fail
  refine (AW.out _).mono ?_
  rintro e w1 ⟨rfl, g⟩
  obtain ⟨z1, rfl⟩ := Wb.start g
  have K1 := Lib.hid (show Below w.heap.size w z1.at from z1.bel)
  clear g
  by_cases c3 : n ≤ 12
  · have d3 : decide (12 < (n : Int)) = false := by simp; omega
    go_upto_region 6 with fail
    refine to_cls ?_
    intro U0 hU0 z0
    have r_b : ∀ z : Wb U0, Row z.at z1.at.heap.size [.slice none 0 0] 29 := Row.next (Row.new _ [.slice none 0 0] _) hU0
    have KK := Lib.hid (KB.next (KB.alloc K1.out _) hU0)
    have WM := Lib.hid (show w.heap.size ≤ z1.at.heap.size from K1.out.size)
    clear hU0
    obtain ⟨M, hM⟩ : ∃ b, b = z1.at.heap.size := ⟨_, rfl⟩
    rw [← hM] at r_b WM
    simp only [← hM]
    clear hM
    have RB := Lib.hid (r_b z0)
    clear r_b
    go_wp2_with fail
    go_loopw [4, 5] (fun lv i wr => ∃ (k : Nat) (bp : Option Addr) (bn bc : Nat) (L : List E), k ≤ n ∧ i = .int .i64 (k : Int) ∧ Row wr M [.slice bp bn bc] 29 ∧ SlE wr (.slice bp bn bc) L ∧ SlE wr lv L ∧ Rise L ∧ LB L ∧ L.length ≤ k ∧ (∀ e ∈ L, selfs e) ∧ Below w.heap.size w wr) (fun _ i _ => n - (intOf i).toNat)
    case atStart => exact ⟨0, none, 0, 0, [], by omega, rfl, RB.out, SlAt.nil _ _, SlAt.nil _ _, List.Pairwise.nil, (fun _ h => by cases h), by simp, (fun _ h => by cases h), KK.out z0⟩
    case round =>
      obtain ⟨k, bp, bn, bc, L, hk, rfl, hm, hbl, hll, hri, hlb, hlen, hse, hbel⟩ := hrel
      have RM := Lib.hid hm
      have BL := Lib.hid hbl
      have LL := Lib.hid hll
      have RI := Lib.hid hri
      have LBB := Lib.hid hlb
      have LK1 := Lib.hid hlen
      have LN := Lib.hid (show L.length ≤ 500 by omega)
      have SE := Lib.hid hse
      have BB := Lib.hid hbel
      clear hm hbl hll hri hlb hlen hse hbel
      have k0 : (0 : Int) ≤ (k : Int) := by omega
      by_cases ck : k < n
      · have lk : k < S.length := by have := HN.out; omega
        obtain ⟨a, rfl⟩ := SlE.addr HS.out (by omega)
        have AT := Lib.hid (fun (U : World) (q : Below w.heap.size w U) => (HS.out.below q).at k lk)
        have BX := Lib.hid (HB.out S[k] (List.getElem_mem lk))
        obtain ⟨⟨x0, x1, x2, x3⟩, hx⟩ : ∃ x, x = S[k] := ⟨_, rfl⟩
        rw [← hx] at AT BX
        simp only at AT
        clear hx lk
        have k1 : (k : Int) < (n : Int) := by omega
        have FI := Lib.hid (fun U => fill_any x0 x1 x2 x3 BX.out.2.1.1 BX.out.2.1.2 BX.out.2.2.1 BX.out.2.2.2 BX.out.1.1 BX.out.1.2 U)
        have FSu := Lib.hid (@fill_selfs x0 x1 x2 x3)
        obtain ⟨⟨e0, e1, e2, e3⟩, he⟩ : ∃ x, x = fillE x0 x1 x2 x3 := ⟨_, rfl⟩
        obtain ⟨b, hb⟩ : ∃ x, x = fillOk x2 x3 := ⟨_, rfl⟩
        have FB := Lib.hid (show EB ⟨e0, e1, e2, e3⟩ by rw [he]; exact fill_bd BX.out)
        rw [← he, ← hb] at FI FSu
        unfold ev at FI
        simp only at FI
        clear he hb
        have SS := Lib.hid (fun (V : World) (q : Below wr.heap.size wr V) => (show V.cell? (a.add (k * 4)) = some (.int .i64 x0) ∧ V.cell? ⟨(a.add (k * 4)).block, (a.add (k * 4)).off + 1, none⟩ = some (.int .u64 x1) ∧ V.cell? ⟨(a.add (k * 4)).block, (a.add (k * 4)).off + 2, none⟩ = some (.int .u64 x2) ∧ V.cell? ⟨(a.add (k * 4)).block, (a.add (k * 4)).off + 3, none⟩ = some (.int .u64 x3) from AT.out V (BB.out.trans (q.mono BB.out.size))))
        have S0 := Lib.hid (SS.out wr.drew (Below.refl _ _).drew)
        have D0 := Lib.hid (show Below wr.heap.size wr wr.drew from (Below.refl _ _).drew)
        have D1 := Lib.hid (show Below wr.heap.size wr (wr.alloc (.cells #[.int .i64 0, .int .u64 0, .int .u64 0, .int .u64 0] 25)).drew from (KB.alloc (Below.refl _ _) _).drew)
        have S1 := Lib.hid (SS.out _ D1.out)
        go_upto_region 10 with fail
        go_region_held3 (fun w' => w'.cell? (a.add (k * 4)) = some (.int .i64 x0) ∧ w'.cell? ⟨(a.add (k * 4)).block, (a.add (k * 4)).off + 1, none⟩ = some (.int .u64 x1) ∧ w'.cell? ⟨(a.add (k * 4)).block, (a.add (k * 4)).off + 2, none⟩ = some (.int .u64 x2) ∧ w'.cell? ⟨(a.add (k * 4)).block, (a.add (k * 4)).off + 3, none⟩ = some (.int .u64 x3))
          (first | exact S0.out | exact S1.out | exact S5.out | exact A5.out | exact F5.out)
          (first
            | (go_at_call 20; (with_reducible refine (FI.out wr.drew).mono ?_); rintro e w5 ⟨rfl, g5⟩; have X5 := Lib.hid (show Below wr.heap.size wr w5 from D0.out.trans (g5.mono D0.out.size)); have S5 := Lib.hid (SS.out w5 X5.out); have A5 := Lib.hid (SS.out _ (KB.alloc X5.out (.cells #[.int .i64 0, .int .u64 0, .int .u64 0, .int .u64 0] 25))); have F5 := Lib.hid (SS.out _ (KB.alloc X5.out (.cells #[.int .i64 e0, .int .u64 e1, .int .u64 e2, .int .u64 e3] 25))); have BW := Lib.hid (show Below wr.heap.size wr (w5.alloc (.cells #[.int .i64 e0, .int .u64 e1, .int .u64 e2, .int .u64 e3] 25)) from KB.alloc X5.out _); have ZE := Lib.hid (show Row (w5.alloc (.cells #[.int .i64 e0, .int .u64 e1, .int .u64 e2, .int .u64 e3] 25)) w5.heap.size [.int .i64 e0, .int .u64 e1, .int .u64 e2, .int .u64 e3] 25 from Row.new w5 [.int .i64 e0, .int .u64 e1, .int .u64 e2, .int .u64 e3] _); have NE := Lib.hid (show w5.heap.size ≠ M by have := RM.out.lt; have := X5.out.size; omega); obtain ⟨eA, hA⟩ : ∃ x, x = w5.heap.size := ⟨_, rfl⟩; have HA := Lib.hid hA; rw [← hA] at NE; clear g5 hA)
            | (go_at_call 20; (with_reducible refine (FI.out (wr.alloc (.cells #[.int .i64 0, .int .u64 0, .int .u64 0, .int .u64 0] 25)).drew).mono ?_); rintro e w5 ⟨rfl, g5⟩; have X5 := Lib.hid (show Below wr.heap.size wr w5 from D1.out.trans (g5.mono D1.out.size)); have S5 := Lib.hid (SS.out w5 X5.out); have A5 := Lib.hid True.intro; have Z5 := (show Row w5 wr.heap.size [.int .i64 0, .int .u64 0, .int .u64 0, .int .u64 0] 25 from ((Row.new wr [.int .i64 0, .int .u64 0, .int .u64 0, .int .u64 0] 25).drew).below g5); have m0 := Z5.free 0; have m1 := Z5.free 1; have m2 := Z5.free 2; have m3 := Z5.free 3; have v0 := Z5.cell 0; have v1 := Z5.cell 1; have v2 := Z5.cell 2; have v3 := Z5.cell 3; have BW := Lib.hid (show Below wr.heap.size wr ((((w5.setCell ⟨wr.heap.size, 0, none⟩ (.int .i64 e0)).setCell ⟨wr.heap.size, 1, none⟩ (.int .u64 e1)).setCell ⟨wr.heap.size, 2, none⟩ (.int .u64 e2)).setCell ⟨wr.heap.size, 3, none⟩ (.int .u64 e3)) from KB.put (KB.put (KB.put (KB.put X5.out (Nat.le_refl _) 0 _) (Nat.le_refl _) 1 _) (Nat.le_refl _) 2 _) (Nat.le_refl _) 3 _); have F5 := Lib.hid (SS.out _ BW.out); have ZE := Lib.hid (show Row ((((w5.setCell ⟨wr.heap.size, 0, none⟩ (.int .i64 e0)).setCell ⟨wr.heap.size, 1, none⟩ (.int .u64 e1)).setCell ⟨wr.heap.size, 2, none⟩ (.int .u64 e2)).setCell ⟨wr.heap.size, 3, none⟩ (.int .u64 e3)) wr.heap.size [.int .i64 e0, .int .u64 e1, .int .u64 e2, .int .u64 e3] 25 from ((((((Row.new wr [.int .i64 0, .int .u64 0, .int .u64 0, .int .u64 0] 25).drew).below g5).set 0 _).set 1 _).set 2 _).set 3 _); have NE := Lib.hid (show wr.heap.size ≠ M by have := RM.out.lt; omega); obtain ⟨eA, hA⟩ : ∃ x, x = wr.heap.size := ⟨_, rfl⟩; have HA := Lib.hid hA; rw [← hA] at NE; clear g5 hA Z5))
        all_goals
          go_upto_region 11 with fail
          refine to_cls ?_
          intro U1 hU1 z2
          have r_m : ∀ z : Wb U1, Row z.at M [.slice bp bn bc] 29 := Row.next (RM.out.below BW.out) hU1
          have r_e : ∀ z : Wb U1, Row z.at eA [.int .i64 e0, .int .u64 e1, .int .u64 e2, .int .u64 e3] 25 := by rw [HA.out]; exact Row.next ZE.out hU1
          have BL2 := Lib.hid (fun z : Wb U1 => ((BL.out.below BW.out).below hU1).below z.bel)
          have LL2 := Lib.hid (fun z : Wb U1 => ((LL.out.below BW.out).below hU1).below z.bel)
          have KB2 := Lib.hid (KB.next (BB.out.trans (BW.out.mono BB.out.size)) hU1)
          clear hU1
          have hA := HA.out
          simp only [← hA]
          clear hA HA
          have c_m : ∀ z : Wb U1, z.at.cell? ⟨M, 0, none⟩ = some (.slice bp bn bc) := fun z => (r_m z).cell 0
          have c_e0 : ∀ z : Wb U1, z.at.cell? ⟨eA, 0, none⟩ = some (.int .i64 e0) := fun z => (r_e z).cell 0
          have c_e1 : ∀ z : Wb U1, z.at.cell? ⟨eA, 1, none⟩ = some (.int .u64 e1) := fun z => (r_e z).cell 1
          have c_e2 : ∀ z : Wb U1, z.at.cell? ⟨eA, 2, none⟩ = some (.int .u64 e2) := fun z => (r_e z).cell 2
          have c_e3 : ∀ z : Wb U1, z.at.cell? ⟨eA, 3, none⟩ = some (.int .u64 e3) := fun z => (r_e z).cell 3
          cases b with
          | false =>
            clear c_m c_e0 c_e1 c_e2 c_e3
            go_wp2
            go_roundw
            case rel => exact ⟨k + 1, bp, bn, bc, L, by omega, by go_num, r_m z2, BL2.out z2, LL2.out z2, RI.out, LBB.out, by have := LK1.out; omega, SE.out, KB2.out z2⟩
            case measure => simp [intOf]; omega
          | true =>
            go_wp2_with fail
            refine (with_ev (.slice bp bn bc) L e0 e1 e2 e3 z2.at (BL2.out z2) RI.out LN.out).mono ?_
            rintro e w3 ⟨b3, rfl, HB3, g⟩
            obtain ⟨p5, n5, c5, rfl⟩ := SlAt.form HB3
            have BL3 := Lib.hid HB3
            obtain ⟨z3, rfl⟩ := Wb.next (x := z2) g
            clear g HB3
            have fz : ∀ (z : Wb U1) (i : Nat), z.at.frozen? ⟨M, i, none⟩ = false := fun z i => (r_m z).free i
            go_upto_region 13 with fail
            clear fz
            refine to_cls ?_
            intro U3 hU3 z4
            have r_m3 : ∀ z : Wb U3, Row z.at M [.slice p5 n5 c5] 29 := Row.next ((r_m z3).set 0 _) hU3
            have r_e3 : ∀ z : Wb U3, Row z.at eA [.int .i64 e0, .int .u64 e1, .int .u64 e2, .int .u64 e3] 25 := Row.next ((r_e z3).oth NE.out 0 _) hU3
            have BL4 := Lib.hid (fun z : Wb U3 => ((BL3.out.setR (r_m z3) (.slice p5 n5 c5)).below hU3).below z.bel)
            have LL4 := Lib.hid (fun z : Wb U3 => (((LL2.out z3).setR (r_m z3) (.slice p5 n5 c5)).below hU3).below z.bel)
            have KB4 := Lib.hid (KB.next (KB.put (KB2.out z3) WM.out 0 _) hU3)
            clear hU3 c_m c_e0 c_e1 c_e2 c_e3
            have c_e0 : ∀ z : Wb U3, z.at.cell? ⟨eA, 0, none⟩ = some (.int .i64 e0) := fun z => (r_e3 z).cell 0
            have c_e1 : ∀ z : Wb U3, z.at.cell? ⟨eA, 1, none⟩ = some (.int .u64 e1) := fun z => (r_e3 z).cell 1
            have c_e2 : ∀ z : Wb U3, z.at.cell? ⟨eA, 2, none⟩ = some (.int .u64 e2) := fun z => (r_e3 z).cell 2
            have c_e3 : ∀ z : Wb U3, z.at.cell? ⟨eA, 3, none⟩ = some (.int .u64 e3) := fun z => (r_e3 z).cell 3
            go_wp2_with fail
            refine (rwith_any u4 L e0 e1 e2 e3 z4.at (LL4.out z4) LN.out).mono ?_
            rintro e w6 ⟨l6, rfl, HL, g⟩
            have LL6 := Lib.hid HL
            obtain ⟨z6, rfl⟩ := Wb.next (x := z4) g
            clear g HL c_e0 c_e1 c_e2 c_e3
            have SE2 := Lib.hid (show ∀ x ∈ insE L ⟨e0, e1, e2, e3⟩, selfs x from fun x hx => by
              rcases (insE_mem RI.out _ x).1 hx with rfl | hx
              · exact FSu.out (by first | rfl | trivial)
              · exact SE.out x hx)
            go_wp2
            go_roundw
            case rel => exact ⟨k + 1, p5, n5, c5, insE L ⟨e0, e1, e2, e3⟩, by omega, by go_num, r_m3 z6, BL4.out z6, LL6.out, insE_rise RI.out _, LBB.out.ins RI.out FB.out, (by have := insE_len L ⟨e0, e1, e2, e3⟩; have := LK1.out; omega), SE2.out, KB4.out z6⟩
            case measure => simp [intOf]; omega
      · obtain rfl : n = k := by omega
        have c_m := RM.out.cell 0
        go_wp2_with fail
        refine (single_any (.slice bp bn bc) L wr BL.out LN.out LBB.out).mono ?_
        rintro e w7 ⟨⟨b1, rfl, h1⟩, g⟩
        have H1 := Lib.hid h1
        have G1 := Lib.hid g
        clear h1 g
        go_wp2_with fail
        refine (rsingle_any u4 L w7 (LL.out.below G1.out) LN.out LBB.out).mono ?_
        rintro e w8 ⟨⟨b2, rfl, h2⟩, g⟩
        have KE := Lib.hid (show Below w.heap.size w w8 from (BB.out.trans (G1.out.mono BB.out.size)).trans (g.mono (BB.out.trans (G1.out.mono BB.out.size)).size))
        have EQ := says_eq H1.out h2 (apart_one SE.out)
        clear h2 g
        go_wp2
        go_ret
        exact ⟨by first | rfl | simp [EQ], KE.out⟩
  · have d3 : decide (12 < (n : Int)) = true := by simp; omega
    go_wp2
    go_ret
    exact ⟨by first | rfl | simp, K1.out⟩
end Go.Proofs.Yteiokenijmaloaa
