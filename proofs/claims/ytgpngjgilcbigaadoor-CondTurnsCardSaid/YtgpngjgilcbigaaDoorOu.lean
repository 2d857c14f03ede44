/-
  Layer 11, the walks: awake.
-/
import Derived.Test.YtgpngjgilcbigaaDoorOt
set_option linter.unusedSimpArgs false
set_option linter.unusedVariables false
namespace GrC
open GrP GrL
def exC : Tx := [48, 58, 88, 49, 61, 48, 120, 49, 32, 47, 92, 32, 126, 91, 48, 120, 49, 48, 93, 61, 48, 120, 48]
def exT : List GrL.Tok := [⟨2, [48], 0⟩, ⟨3, [58], 1⟩, ⟨1, [88, 49], 2⟩, ⟨3, [61], 4⟩, ⟨2, [48, 120, 49], 5⟩, ⟨3, [47, 92], 9⟩, ⟨3, [126], 12⟩, ⟨3, [91], 13⟩, ⟨2, [48, 120, 49, 48], 14⟩, ⟨3, [93], 18⟩, ⟨3, [61], 19⟩, ⟨2, [48, 120, 48], 20⟩, ⟨4, [], 23⟩]
def exA : Cnd := .node 1 0 1 0 1 []
def exB : Cnd := .node 2 0 0 16 0 []
def exN : Cnd := .node 6 0 0 0 0 [exB]
def exD : Cnd := .node 4 0 0 0 0 [exA, exN]
theorem toks_ex : toks exC exC.length 0 = (exT, none) := by kernel_rfl
theorem pr_ex : exD.pr = exC := by decide +kernel
theorem ok_ex : exD.ok := by simp [exD, exA, exB, exN, Cnd.ok, okL]
theorem cnt_ex : exD.cnt = 4 := by simp [exD, exA, exB, exN, Cnd.cnt, cntL]
theorem at_ex {i k : Nat} {t : Tx} (h : i < exT.length) (h1 : (exT[i]'h).kind = k) (h2 : (exT[i]'h).text = t) : At exT i k t := ⟨h, h1, h2⟩
theorem texts_ex : ∀ i (h : i < exT.length), (exT[i]'h).text.length ≤ 4194304 := by decide +kernel
end GrC
namespace Go.Proofs.YtgpngjgilcbigaaDoor
open Go.RowKit GrP GrL GrC
theorem orn_ex : OrN exT 2 0 12 exD := by
  refine ⟨0, 12, exD, ⟨1, 5, exA, ?_, .step (at_ex (by decide) rfl rfl) ?_ (.done 12 exD), by decide, ?_⟩, .done 12 exD, by decide, ?_⟩
  · refine .inr (.inr (.inr (.inl ⟨[48], [88, 49], [48, 120, 49], 0, 1, 1, at_ex (by decide) rfl rfl, at_ex (by decide) rfl rfl, at_ex (by decide) rfl rfl, at_ex (by decide) rfl rfl, at_ex (by decide) rfl rfl, ?_, by decide, ?_, by decide, ?_, rfl, rfl⟩)))
    · decide +kernel
    · decide +kernel
    · decide +kernel
  · refine .inr (.inl ⟨exB, at_ex (by decide) rfl rfl, .inr (.inr (.inr (.inr (.inl ⟨[48, 120, 49, 48], [48, 120, 48], 16, 0, at_ex (by decide) rfl rfl, at_ex (by decide) rfl rfl, at_ex (by decide) rfl rfl, at_ex (by decide) rfl rfl, at_ex (by decide) rfl rfl, ?_, ?_, rfl, rfl⟩)))), rfl⟩)
    · decide +kernel
    · decide +kernel
  · rintro ⟨h, h1, _⟩
    exact absurd (show (4 : Nat) = 3 from h1) (by decide)
  · rintro ⟨h, h1, _⟩
    exact absurd (show (4 : Nat) = 3 from h1) (by decide)
theorem tok_ex (w : World) : Calls Tryd.prog 13 #[.agg #[.string ⟨#[48, 58, 88, 49, 61, 48, 120, 49, 32, 47, 92, 32, 126, 91, 48, 120, 49, 48, 93, 61, 48, 120, 48]⟩, .int .i64 0]] w fun e w' => ∃ g cap, e = .returned (.tuple #[.slice (some ⟨g, 0, none⟩) 13 cap, .agg #[.int .i64 0, .int .i64 0]]) ∧ (∀ j u, (tokCells 0 exT)[j]? = some u → w'.cell? ⟨g, j, none⟩ = some u) ∧ Below w.heap.size w w' := by
  refine (ltokens_any exC 0 w (by decide) (by decide) (by decide)).mono ?_
  rintro e w' ⟨⟨c, p, h, _⟩ | ⟨_, v, rfl, ho⟩, d⟩
  · rw [toks_ex] at h; cases h
  · rw [toks_ex] at ho
    obtain ⟨rfl, h0⟩ | ⟨g, cap, rfl, _, _, hc⟩ := own_open ho
    · exact absurd h0 (by decide)
    · exact ⟨g, cap, rfl, hc, d⟩

set_option maxRecDepth 100000 in
set_option maxHeartbeats 6400000 in
theorem awake_any (w : World) (ht : TB w) : Calls Tryd.prog 8 #[] w fun e w' => e = .returned (.bool true) ∧ Below w.heap.size w w' := by
  have TK := Lib.hid tok_ex
  have HT := Lib.hid ht
  have pf0 := pfield0
  clear ht
  go_enter Tryd.func8, Tryd.ntmps8
  go_upto_region 2 with (go_at_call 13; refine (TK.out _).mono ?_; rintro e w1 ⟨g, cap, rfl, h1, h2⟩)
  refine to_cls ?_
  intro U1 hU1 y1
  have B1 := Lib.hid ((KB.alloc (Below.refl w1.heap.size w1) (.cells #[.int .i64 0, .int .i64 0] 33)).trans ((hU1.trans (y1.bel.mono hU1.size)).mono (by simp)))
  have CE := Lib.hid (fun j u (hj : (tokCells 0 exT)[j]? = some u) => keep_below B1.out _ _ (h1 j u hj))
  have RP1 := Lib.hid (show Row y1.at w1.heap.size [.int .i64 0, .int .i64 0] 33 from ((Row.new w1 [.int .i64 0, .int .i64 0] _).below hU1).below y1.bel)
  have K1 := Lib.hid (h2.trans (B1.out.mono h2.size))
  obtain ⟨pB, hpB⟩ : ∃ b, b = w1.heap.size := ⟨_, rfl⟩
  have PB := Lib.hid (show w.heap.size ≤ pB by rw [hpB]; exact h2.size)
  rw [← hpB] at RP1
  simp only [← hpB]
  clear hpB hU1 h1 h2 B1
  go_upto_region 3 with (go_at_call 14; refine (read_any g cap exT _ CE.out (by decide) (by decide) texts_ex).mono ?_; rintro e w2 ⟨w0, tp, tc, R, rfl, a1, a2, a3, a4, a5⟩)
  have A2 := Lib.hid (show Below w.heap.size w w0 from K1.out.trans (a2.mono K1.out.size))
  have TB0 := Lib.hid (HT.out.below A2.out)
  have K2 := Lib.hid (show Below w.heap.size w w2 from A2.out.trans (a3.mono A2.out.size))
  have PR := Lib.hid (show pB < R by have := RP1.out.lt; have := a2.size; omega)
  have RW := Lib.hid (show w.heap.size ≤ R by have := A2.out.size; omega)
  have RP2 := Lib.hid ((RP1.out.below a2).below a3)
  have PS := Lib.hid (show Calls Tryd.prog 15 #[.pointer (some ⟨R, 0, none⟩)] w2 fun e w' => ∃ p5 n5 q5, e = .returned (.agg #[.int .i64 4, .int .i64 0, .int .i64 0, .int .u64 0, .int .u64 0, .slice p5 n5 q5]) ∧ n5 = 2 ∧ Tree (fun b => w2.heap.size ≤ b) w' exD.args p5 ∧ Row w' R [.slice tp 13 tc, .int .i64 ((12 : Nat) : Int), .int .i64 0, .int .i64 0] 68 ∧ Two R R w2 w' from parse_ok a1 rfl TB0.out w2 a5 a3 a4 2 12 exD orn_ex (at_ex (by decide) rfl rfl) (by rw [cnt_ex]; decide))
  clear a1 a2 a3 a4 a5 CE
  go_upto_region 4 with (go_at_call 15; refine (PS.out).mono ?_; rintro e w3 ⟨p5, n5, q5, rfl, hn5, ht5, g1, g2⟩; have N5 := Lib.hid hn5; clear hn5)
  have K3 := Lib.hid (show Below w.heap.size w w3 from g2.below K2.out RW.out RW.out)
  have RP3 := Lib.hid (show Row w3 pB [.int .i64 0, .int .i64 0] 33 from RP2.out.two g2 (Nat.ne_of_lt PR.out) (Nat.ne_of_lt PR.out))
  obtain ⟨pC, hpC⟩ : ∃ b, b = w3.heap.size := ⟨_, rfl⟩
  have PC := Lib.hid hpC
  have G1 := Lib.hid g1
  have H5 := Lib.hid ht5
  clear g1 g2 ht5
  simp only [← hpC]
  clear hpC
  refine to_cls ?_
  intro V1 hV1 z1
  have B2 := Lib.hid ((KB.alloc (Below.refl w3.heap.size w3) (.cells #[.int .i64 4, .int .i64 0, .int .i64 0, .int .u64 0, .int .u64 0, .slice p5 n5 q5] 25)).trans ((hV1.trans (z1.bel.mono hV1.size)).mono (by simp)))
  have RC4 := Lib.hid (show Row z1.at pC [.int .i64 4, .int .i64 0, .int .i64 0, .int .u64 0, .int .u64 0, .slice p5 n5 q5] 25 from PC.out ▸ ((Row.new w3 [.int .i64 4, .int .i64 0, .int .i64 0, .int .u64 0, .int .u64 0, .slice p5 n5 q5] _).below hV1).below z1.bel)
  have RP4 := Lib.hid (RP3.out.below B2.out)
  have RR4 := Lib.hid (G1.out.below B2.out)
  have K4 := Lib.hid (show Below w.heap.size w z1.at from K3.out.trans (B2.out.mono K3.out.size))
  have L4 := Lib.hid (show LAt z1.at exD.args p5 0 from (H5.out.below B2.out).now)
  clear hV1
  have BA := Lib.hid (fun z : Wb z1.at => bad_any R _ _ _ _ z.at (RR4.out.below z.bel))
  have CN := Lib.hid (fun z : Wb z1.at => show Calls Tryd.prog 20 #[.agg #[.int .i64 4, .int .i64 0, .int .i64 0, .int .u64 0, .int .u64 0, .slice p5 n5 q5]] z.at fun e w' => e = .returned (.int .i64 4) ∧ Below z.at.heap.size z.at w' from (count_any 4 (by decide) exD p5 n5 q5 z.at (by rw [cnt_ex]; decide) N5.out (L4.out.below z.bel)).mono (fun e w' h => ⟨h.1.trans (by rw [cnt_ex]; rfl), h.2⟩))
  have PN := Lib.hid (fun z : Wb z1.at => show Calls Tryd.prog 11 #[.agg #[.int .i64 4, .int .i64 0, .int .i64 0, .int .u64 0, .int .u64 0, .slice p5 n5 q5]] z.at fun e w' => e = .returned (.string ⟨#[48, 58, 88, 49, 61, 48, 120, 49, 32, 47, 92, 32, 126, 91, 48, 120, 49, 48, 93, 61, 48, 120, 48]⟩) ∧ Below z.at.heap.size z.at w' from (print_any 4 exD p5 n5 q5 z.at (by rw [cnt_ex]; decide) (by rw [cnt_ex]; decide) ok_ex N5.out (L4.out.below z.bel) ((HT.out.below K4.out).below z.bel)).mono (fun e w' h => ⟨h.1.trans (by rw [pr_ex]; rfl), h.2⟩))
  have p0 := RP4.out.cell 0
  have c0 := fun z : Wb z1.at => (RC4.out.at z).cell 0
  have c1 := fun z : Wb z1.at => (RC4.out.at z).cell 1
  have c2 := fun z : Wb z1.at => (RC4.out.at z).cell 2
  have c3 := fun z : Wb z1.at => (RC4.out.at z).cell 3
  have c4 := fun z : Wb z1.at => (RC4.out.at z).cell 4
  have c5 := fun z : Wb z1.at => (RC4.out.at z).cell 5
  simp only [List.getElem?_cons_zero, List.getElem?_cons_succ] at p0 c0 c1 c2 c3 c4 c5
  go_wp2_with (first | (go_at_call 16; refine (BA.out ⟨_, Below.refl _ _⟩).mono ?_; rintro e w4 ⟨rfl, g⟩; obtain ⟨x4, rfl⟩ := Wb.start (W := z1.at) g; clear g) | (go_at_call 20; refine (CN.out x4).mono ?_; rintro e w5 ⟨rfl, g⟩; obtain ⟨x5, rfl⟩ := Wb.next g; clear g) | (go_at_call 11; refine (PN.out x5).mono ?_; rintro e w6 ⟨rfl, g⟩; obtain ⟨x6, rfl⟩ := Wb.next g; clear g))
  go_ret
  exact ⟨rfl, K4.out.trans (x6.bel.mono K4.out.size)⟩
end Go.Proofs.YtgpngjgilcbigaaDoor
