/-
  Layer 5, the laws' walks: RegsTells.
-/
import Derived.Test.YtnehdgapcgbdeaaGl
import Derived.Deep.RegionHeld3
set_option linter.unusedSimpArgs false
set_option linter.unusedVariables false
namespace GrG
theorem told_addr (op n : Int) : toldL (addrA op n) = no31L (addrA op n) := by
  unfold addrA
  split
  · exact told_one n
  · rfl
theorem told_data (op d n m : Int) : toldL (dataA op d n m) = no31L (dataA op d n m) := by
  unfold dataA
  repeat' split
  · exact told_one d
  · exact told_one n
  · exact told_two n m
  · exact told_one 32
  · rfl
theorem told_sets (op d : Int) : toldL (setsA op d) = no31L (setsA op d) := by
  unfold setsA
  repeat' split
  · exact told_two d 32
  · exact told_one d
  · rfl
theorem len_no31 (zs : List Int) (h : zs.length ≤ 2) : (no31L zs).length ≤ 100 := by
  have := no31L_len zs zs.length
  rw [List.take_of_length_le (Nat.le_refl _)] at this
  omega
theorem len_addr (op n : Int) : (addrA op n).length ≤ 2 := by
  unfold addrA
  split
  all_goals simp
theorem len_data (op d n m : Int) : (dataA op d n m).length ≤ 2 := by
  unfold dataA
  repeat' split
  all_goals simp
theorem len_sets (op d : Int) : (setsA op d).length ≤ 2 := by
  unfold setsA
  repeat' split
  all_goals simp
end GrG
namespace Go.Proofs.Ytnehdgapcgbdeaa
open Go.RowKit
theorem Wb.nextd {W w2 : World} {x : Wb W} (h : Below x.at.drew.heap.size x.at.drew w2) : ∃ y : Wb W, w2 = y.at := Wb.next (x := x) ((Below.refl _ _).drew.trans h)
theorem told_eq {xs ys : List Int} {w w' : World} {e : Ending} (h : xs = ys) (k : ToldPost xs w e w') : ToldPost ys w e w' := h ▸ k

set_option maxHeartbeats 12800000 in
theorem RegsTells_walk (op d n m imm kind : Int) (w : World) :
    Calls Try.prog 3 #[.agg #[.int .i64 op, .int .i64 d, .int .i64 n, .int .i64 m, .int .i64 imm, .int .i64 kind]] w fun e w' => e = .returned (.bool true) ∧ Below w.heap.size w w' := by
  cases hr : decide (GrI.right ⟨op, d, n, m, imm, kind⟩) with
  | false =>
    have PR0 := Lib.hid (pright_b op d n m imm kind false hr)
    clear hr
    obtain ⟨a0, a1, a2, a3, a4, a5, kb⟩ := ibox6 w op d n m imm kind _ rfl
    have KB := Lib.hid kb
    clear kb
    go_enter Try.func3, Try.ntmps3
    go_upto_region 1 with fail
    obtain ⟨x0, hx0⟩ : ∃ x : Wb (w.alloc (.cells #[.int .i64 op, .int .i64 d, .int .i64 n, .int .i64 m, .int .i64 imm, .int .i64 kind] 23)), w.alloc (.cells #[.int .i64 op, .int .i64 d, .int .i64 n, .int .i64 m, .int .i64 imm, .int .i64 kind] 23) = x.at := ⟨⟨_, Below.refl _ _⟩, rfl⟩
    rw [hx0]
    clear hx0
    go_wp2_with fail
    refine (gawake_any _).mono ?_
    rintro e w1 ⟨rfl, b⟩
    obtain ⟨x1, rfl⟩ := Wb.next b
    clear b
    go_wp2_with fail
    refine (PR0.out _).mono ?_
    rintro e w1 ⟨rfl, b⟩
    obtain ⟨x2, rfl⟩ := Wb.next b
    clear b
    go_wp2
    go_ret
    exact ⟨rfl, KB.out _⟩
  | true =>
    have PR0 := Lib.hid (pright_b op d n m imm kind true hr)
    have ho : op = 1 ∨ op = 2 ∨ op = 3 ∨ op = 4 ∨ op = 5 ∨ op = 6 ∨ op = 7 ∨ op = 8 ∨ op = 9 ∨ op = 10 ∨ op = 11 ∨ op = 12 ∨ op = 13 ∨ op = 14 ∨ op = 15 ∨ op = 16 ∨ op = 17 ∨ op = 18 ∨ op = 19 ∨ op = 20 ∨ op = 21 ∨ op = 22 ∨ op = 23 := GrI.ops (x := ⟨op, d, n, m, imm, kind⟩) (by simpa using hr)
    have AD1 := Lib.hid (fun w => (address_any op d n m imm kind w ho).mono fun e w' h => told_eq (GrG.told_addr op n) h)
    have AD2 := Lib.hid (fun w => paddress_any op d n m imm kind w ho)
    have DA1 := Lib.hid (fun w => (data_any op d n m imm kind w ho).mono fun e w' h => told_eq (GrG.told_data op d n m) h)
    have DA2 := Lib.hid (fun w => pdata_any op d n m imm kind w ho)
    have SE1 := Lib.hid (fun w => (sets_any op d n m imm kind w ho).mono fun e w' h => told_eq (GrG.told_sets op d) h)
    have SE2 := Lib.hid (fun w => psets_any op d n m imm kind w ho)
    have LO := Lib.hid (fun w => load_any op d n m imm kind w)
    have PLO := Lib.hid (fun w => pload_any op d n m imm kind w)
    have ST := Lib.hid (fun w => store_any op d n m imm kind w)
    have PST := Lib.hid (fun w => pstore_any op d n m imm kind w)
    have AC := Lib.hid (fun w => access_any op d n m imm kind w)
    have BR := Lib.hid (fun w => branch_any op d n m imm kind w)
    have PBR := Lib.hid (fun w => pbranch_any op d n m imm kind w)
    have L1 := GrG.len_no31 _ (GrG.len_addr op n)
    have L2 := GrG.len_no31 _ (GrG.len_data op d n m)
    have L3 := GrG.len_no31 _ (GrG.len_sets op d)
    obtain ⟨A1, hA1⟩ : ∃ A, A = GrG.no31L (GrG.addrA op n) := ⟨_, rfl⟩
    obtain ⟨A2, hA2⟩ : ∃ A, A = GrG.no31L (GrG.dataA op d n m) := ⟨_, rfl⟩
    obtain ⟨A3, hA3⟩ : ∃ A, A = GrG.no31L (GrG.setsA op d) := ⟨_, rfl⟩
    rw [← hA1] at AD1 AD2 L1
    rw [← hA2] at DA1 DA2 L2
    rw [← hA3] at SE1 SE2 L3
    have LA := Lib.hid (And.intro L1 (And.intro L2 L3))
    clear hr ho hA1 hA2 hA3 L1 L2 L3
    obtain ⟨a0, a1, a2, a3, a4, a5, kb⟩ := ibox6 w op d n m imm kind _ rfl
    have KB := Lib.hid kb
    clear kb
    cases c : GrG.loadB op with
    | true =>
      simp only [c, Bool.true_or] at LO PLO AC
      go_enter Try.func3, Try.ntmps3
      go_upto_region 1 with fail
      obtain ⟨x0, hx0⟩ : ∃ x : Wb (w.alloc (.cells #[.int .i64 op, .int .i64 d, .int .i64 n, .int .i64 m, .int .i64 imm, .int .i64 kind] 23)), w.alloc (.cells #[.int .i64 op, .int .i64 d, .int .i64 n, .int .i64 m, .int .i64 imm, .int .i64 kind] 23) = x.at := ⟨⟨_, Below.refl _ _⟩, rfl⟩
      rw [hx0]
      clear hx0
      go_wp2_with fail
      refine (gawake_any _).mono ?_
      rintro e w1 ⟨rfl, b⟩
      obtain ⟨x1, rfl⟩ := Wb.next b
      clear b
      go_wp2_with fail
      refine (PR0.out _).mono ?_
      rintro e w1 ⟨rfl, b⟩
      obtain ⟨x2, rfl⟩ := Wb.next b
      clear b
      go_wp2_with fail
      have KS := Lib.hid (show ∀ w1, (∃ x : Wb (w.alloc (.cells #[.int .i64 op, .int .i64 d, .int .i64 n, .int .i64 m, .int .i64 imm, .int .i64 kind] 23)), w1 = x.at) → w1.cell? ⟨w.heap.size, 0, none⟩ = some (.int .i64 op) ∧ w1.cell? ⟨w.heap.size, 1, none⟩ = some (.int .i64 d) ∧ w1.cell? ⟨w.heap.size, 2, none⟩ = some (.int .i64 n) ∧ w1.cell? ⟨w.heap.size, 3, none⟩ = some (.int .i64 m) ∧ w1.cell? ⟨w.heap.size, 4, none⟩ = some (.int .i64 imm) ∧ w1.cell? ⟨w.heap.size, 5, none⟩ = some (.int .i64 kind) from fun w1 hx => by obtain ⟨x, rfl⟩ := hx; exact ⟨a0 x, a1 x, a2 x, a3 x, a4 x, a5 x⟩)
      refine wp_region_noPanic ?_
      refine wp_region_held_drew (S := (fun w1 => w1.cell? ⟨w.heap.size, 0, none⟩ = some (.int .i64 op) ∧ w1.cell? ⟨w.heap.size, 1, none⟩ = some (.int .i64 d) ∧ w1.cell? ⟨w.heap.size, 2, none⟩ = some (.int .i64 n) ∧ w1.cell? ⟨w.heap.size, 3, none⟩ = some (.int .i64 m) ∧ w1.cell? ⟨w.heap.size, 4, none⟩ = some (.int .i64 imm) ∧ w1.cell? ⟨w.heap.size, 5, none⟩ = some (.int .i64 kind))) (by kernel_rfl) (by first | exact KS.out _ ⟨_, rfl⟩ | exact KS.out _ (Wb.next ((Below.refl _ _).drew))) (fun hHeld => ?_)
      refine wpAnyH_take (i := 0) (v := ?_) rfl (by kernel_rfl) (by kernel_rfl) (by kernel_rfl) (fun _ _ _ h => h) (Or.inl ⟨by rfl, ?_⟩) (by assumption) ?_
      rotate_left 1
      · (intro w hSw; (try dsimp only at hSw); go_simp; try with_reducible rfl)
      (try simp only [Act.put, List.getElem_toArray, List.getElem_cons_zero, List.getElem_cons_succ, List.setIfInBounds_toArray, List.set_cons_zero, List.set_cons_succ])
      refine wpAnyH_take (i := 2) (v := ?_) rfl (by kernel_rfl) (by kernel_rfl) (by kernel_rfl) (fun _ _ _ h => h) (Or.inl ⟨by rfl, ?_⟩) (by assumption) ?_
      rotate_left 1
      · (intro w hSw; (try dsimp only at hSw); go_simp; try with_reducible rfl)
      (try simp only [Act.put, List.getElem_toArray, List.getElem_cons_zero, List.getElem_cons_succ, List.setIfInBounds_toArray, List.set_cons_zero, List.set_cons_succ])
      refine wpAnyH_ready (rs := [1]) (by kernel_rfl) (by simp) ?_
      refine AllReadyH.cons rfl (fun K hK => ?_) AllReadyH.nil
      go_simp
      (first | (go_at_call 11; refine (AD1.out _).mono ?_; rintro e w1 ⟨v1, rfl, hv, b⟩; (first | obtain ⟨x, rfl⟩ := Wb.nextd b | obtain ⟨x, rfl⟩ := Wb.next b); have HV1 := Lib.hid hv; clear hv b) | (go_at_call 12; refine (AD2.out _).mono ?_; rintro e w1 ⟨v2, rfl, hv, b⟩; have HV1 := Lib.hid (HV1.out.keep b); (first | obtain ⟨x, rfl⟩ := Wb.nextd b | obtain ⟨x, rfl⟩ := Wb.next b); have HV2 := Lib.hid hv; clear hv b) | (go_at_call 13; refine (DA1.out _).mono ?_; rintro e w1 ⟨v1, rfl, hv, b⟩; (first | obtain ⟨x, rfl⟩ := Wb.nextd b | obtain ⟨x, rfl⟩ := Wb.next b); have HV1 := Lib.hid hv; clear hv b) | (go_at_call 14; refine (DA2.out _).mono ?_; rintro e w1 ⟨v2, rfl, hv, b⟩; have HV1 := Lib.hid (HV1.out.keep b); (first | obtain ⟨x, rfl⟩ := Wb.nextd b | obtain ⟨x, rfl⟩ := Wb.next b); have HV2 := Lib.hid hv; clear hv b) | (go_at_call 15; refine (SE1.out _).mono ?_; rintro e w1 ⟨v1, rfl, hv, b⟩; (first | obtain ⟨x, rfl⟩ := Wb.nextd b | obtain ⟨x, rfl⟩ := Wb.next b); have HV1 := Lib.hid hv; clear hv b) | (go_at_call 16; refine (SE2.out _).mono ?_; rintro e w1 ⟨v2, rfl, hv, b⟩; have HV1 := Lib.hid (HV1.out.keep b); (first | obtain ⟨x, rfl⟩ := Wb.nextd b | obtain ⟨x, rfl⟩ := Wb.next b); have HV2 := Lib.hid hv; clear hv b) | (go_at_call 10; first | (refine (same_true A1 _ _ _ LA.out.1 HV1.out HV2.out).mono ?_; rintro e w1 ⟨rfl, b⟩; (first | obtain ⟨x, rfl⟩ := Wb.nextd b | obtain ⟨x, rfl⟩ := Wb.next b); clear b HV1 HV2) | (refine (same_true A2 _ _ _ LA.out.2.1 HV1.out HV2.out).mono ?_; rintro e w1 ⟨rfl, b⟩; (first | obtain ⟨x, rfl⟩ := Wb.nextd b | obtain ⟨x, rfl⟩ := Wb.next b); clear b HV1 HV2) | (refine (same_true A3 _ _ _ LA.out.2.2 HV1.out HV2.out).mono ?_; rintro e w1 ⟨rfl, b⟩; (first | obtain ⟨x, rfl⟩ := Wb.nextd b | obtain ⟨x, rfl⟩ := Wb.next b); clear b HV1 HV2)) | (go_at_call 17; refine (LO.out _).mono ?_; rintro e w1 ⟨rfl, b⟩; (first | obtain ⟨x, rfl⟩ := Wb.nextd b | obtain ⟨x, rfl⟩ := Wb.next b); clear b) | (go_at_call 18; refine (PLO.out _).mono ?_; rintro e w1 ⟨rfl, b⟩; (first | obtain ⟨x, rfl⟩ := Wb.nextd b | obtain ⟨x, rfl⟩ := Wb.next b); clear b) | (go_at_call 19; refine (ST.out _).mono ?_; rintro e w1 ⟨rfl, b⟩; (first | obtain ⟨x, rfl⟩ := Wb.nextd b | obtain ⟨x, rfl⟩ := Wb.next b); clear b) | (go_at_call 20; refine (PST.out _).mono ?_; rintro e w1 ⟨rfl, b⟩; (first | obtain ⟨x, rfl⟩ := Wb.nextd b | obtain ⟨x, rfl⟩ := Wb.next b); clear b) | (go_at_call 21; refine (AC.out _).mono ?_; rintro e w1 ⟨rfl, b⟩; (first | obtain ⟨x, rfl⟩ := Wb.nextd b | obtain ⟨x, rfl⟩ := Wb.next b); clear b) | (go_at_call 22; refine (BR.out _).mono ?_; rintro e w1 ⟨rfl, b⟩; (first | obtain ⟨x, rfl⟩ := Wb.nextd b | obtain ⟨x, rfl⟩ := Wb.next b); clear b) | (go_at_call 23; refine (PBR.out _).mono ?_; rintro e w1 ⟨rfl, b⟩; (first | obtain ⟨x, rfl⟩ := Wb.nextd b | obtain ⟨x, rfl⟩ := Wb.next b); clear b))
      refine hK.out _ _ (by first | exact KS.out _ ⟨_, rfl⟩ | exact KS.out _ (Wb.next ((Below.refl _ _).drew))) (fun hHeld => ?_)
      clear hK K
      (try simp only [Act.put, List.getElem_toArray, List.getElem_cons_zero, List.getElem_cons_succ, List.setIfInBounds_toArray, List.set_cons_zero, List.set_cons_succ])
      refine wpAnyH_ready (rs := [3]) (by kernel_rfl) (by simp) ?_
      refine AllReadyH.cons rfl (fun K hK => ?_) AllReadyH.nil
      go_simp
      (first | (go_at_call 11; refine (AD1.out _).mono ?_; rintro e w1 ⟨v1, rfl, hv, b⟩; (first | obtain ⟨x, rfl⟩ := Wb.nextd b | obtain ⟨x, rfl⟩ := Wb.next b); have HV1 := Lib.hid hv; clear hv b) | (go_at_call 12; refine (AD2.out _).mono ?_; rintro e w1 ⟨v2, rfl, hv, b⟩; have HV1 := Lib.hid (HV1.out.keep b); (first | obtain ⟨x, rfl⟩ := Wb.nextd b | obtain ⟨x, rfl⟩ := Wb.next b); have HV2 := Lib.hid hv; clear hv b) | (go_at_call 13; refine (DA1.out _).mono ?_; rintro e w1 ⟨v1, rfl, hv, b⟩; (first | obtain ⟨x, rfl⟩ := Wb.nextd b | obtain ⟨x, rfl⟩ := Wb.next b); have HV1 := Lib.hid hv; clear hv b) | (go_at_call 14; refine (DA2.out _).mono ?_; rintro e w1 ⟨v2, rfl, hv, b⟩; have HV1 := Lib.hid (HV1.out.keep b); (first | obtain ⟨x, rfl⟩ := Wb.nextd b | obtain ⟨x, rfl⟩ := Wb.next b); have HV2 := Lib.hid hv; clear hv b) | (go_at_call 15; refine (SE1.out _).mono ?_; rintro e w1 ⟨v1, rfl, hv, b⟩; (first | obtain ⟨x, rfl⟩ := Wb.nextd b | obtain ⟨x, rfl⟩ := Wb.next b); have HV1 := Lib.hid hv; clear hv b) | (go_at_call 16; refine (SE2.out _).mono ?_; rintro e w1 ⟨v2, rfl, hv, b⟩; have HV1 := Lib.hid (HV1.out.keep b); (first | obtain ⟨x, rfl⟩ := Wb.nextd b | obtain ⟨x, rfl⟩ := Wb.next b); have HV2 := Lib.hid hv; clear hv b) | (go_at_call 10; first | (refine (same_true A1 _ _ _ LA.out.1 HV1.out HV2.out).mono ?_; rintro e w1 ⟨rfl, b⟩; (first | obtain ⟨x, rfl⟩ := Wb.nextd b | obtain ⟨x, rfl⟩ := Wb.next b); clear b HV1 HV2) | (refine (same_true A2 _ _ _ LA.out.2.1 HV1.out HV2.out).mono ?_; rintro e w1 ⟨rfl, b⟩; (first | obtain ⟨x, rfl⟩ := Wb.nextd b | obtain ⟨x, rfl⟩ := Wb.next b); clear b HV1 HV2) | (refine (same_true A3 _ _ _ LA.out.2.2 HV1.out HV2.out).mono ?_; rintro e w1 ⟨rfl, b⟩; (first | obtain ⟨x, rfl⟩ := Wb.nextd b | obtain ⟨x, rfl⟩ := Wb.next b); clear b HV1 HV2)) | (go_at_call 17; refine (LO.out _).mono ?_; rintro e w1 ⟨rfl, b⟩; (first | obtain ⟨x, rfl⟩ := Wb.nextd b | obtain ⟨x, rfl⟩ := Wb.next b); clear b) | (go_at_call 18; refine (PLO.out _).mono ?_; rintro e w1 ⟨rfl, b⟩; (first | obtain ⟨x, rfl⟩ := Wb.nextd b | obtain ⟨x, rfl⟩ := Wb.next b); clear b) | (go_at_call 19; refine (ST.out _).mono ?_; rintro e w1 ⟨rfl, b⟩; (first | obtain ⟨x, rfl⟩ := Wb.nextd b | obtain ⟨x, rfl⟩ := Wb.next b); clear b) | (go_at_call 20; refine (PST.out _).mono ?_; rintro e w1 ⟨rfl, b⟩; (first | obtain ⟨x, rfl⟩ := Wb.nextd b | obtain ⟨x, rfl⟩ := Wb.next b); clear b) | (go_at_call 21; refine (AC.out _).mono ?_; rintro e w1 ⟨rfl, b⟩; (first | obtain ⟨x, rfl⟩ := Wb.nextd b | obtain ⟨x, rfl⟩ := Wb.next b); clear b) | (go_at_call 22; refine (BR.out _).mono ?_; rintro e w1 ⟨rfl, b⟩; (first | obtain ⟨x, rfl⟩ := Wb.nextd b | obtain ⟨x, rfl⟩ := Wb.next b); clear b) | (go_at_call 23; refine (PBR.out _).mono ?_; rintro e w1 ⟨rfl, b⟩; (first | obtain ⟨x, rfl⟩ := Wb.nextd b | obtain ⟨x, rfl⟩ := Wb.next b); clear b))
      refine hK.out _ _ (by first | exact KS.out _ ⟨_, rfl⟩ | exact KS.out _ (Wb.next ((Below.refl _ _).drew))) (fun hHeld => ?_)
      clear hK K
      (try simp only [Act.put, List.getElem_toArray, List.getElem_cons_zero, List.getElem_cons_succ, List.setIfInBounds_toArray, List.set_cons_zero, List.set_cons_succ])
      refine wpAnyH_ready (rs := [4]) (by kernel_rfl) (by simp) ?_
      refine AllReadyH.cons rfl (fun K hK => ?_) AllReadyH.nil
      go_simp
      (first | (go_at_call 11; refine (AD1.out _).mono ?_; rintro e w1 ⟨v1, rfl, hv, b⟩; (first | obtain ⟨x, rfl⟩ := Wb.nextd b | obtain ⟨x, rfl⟩ := Wb.next b); have HV1 := Lib.hid hv; clear hv b) | (go_at_call 12; refine (AD2.out _).mono ?_; rintro e w1 ⟨v2, rfl, hv, b⟩; have HV1 := Lib.hid (HV1.out.keep b); (first | obtain ⟨x, rfl⟩ := Wb.nextd b | obtain ⟨x, rfl⟩ := Wb.next b); have HV2 := Lib.hid hv; clear hv b) | (go_at_call 13; refine (DA1.out _).mono ?_; rintro e w1 ⟨v1, rfl, hv, b⟩; (first | obtain ⟨x, rfl⟩ := Wb.nextd b | obtain ⟨x, rfl⟩ := Wb.next b); have HV1 := Lib.hid hv; clear hv b) | (go_at_call 14; refine (DA2.out _).mono ?_; rintro e w1 ⟨v2, rfl, hv, b⟩; have HV1 := Lib.hid (HV1.out.keep b); (first | obtain ⟨x, rfl⟩ := Wb.nextd b | obtain ⟨x, rfl⟩ := Wb.next b); have HV2 := Lib.hid hv; clear hv b) | (go_at_call 15; refine (SE1.out _).mono ?_; rintro e w1 ⟨v1, rfl, hv, b⟩; (first | obtain ⟨x, rfl⟩ := Wb.nextd b | obtain ⟨x, rfl⟩ := Wb.next b); have HV1 := Lib.hid hv; clear hv b) | (go_at_call 16; refine (SE2.out _).mono ?_; rintro e w1 ⟨v2, rfl, hv, b⟩; have HV1 := Lib.hid (HV1.out.keep b); (first | obtain ⟨x, rfl⟩ := Wb.nextd b | obtain ⟨x, rfl⟩ := Wb.next b); have HV2 := Lib.hid hv; clear hv b) | (go_at_call 10; first | (refine (same_true A1 _ _ _ LA.out.1 HV1.out HV2.out).mono ?_; rintro e w1 ⟨rfl, b⟩; (first | obtain ⟨x, rfl⟩ := Wb.nextd b | obtain ⟨x, rfl⟩ := Wb.next b); clear b HV1 HV2) | (refine (same_true A2 _ _ _ LA.out.2.1 HV1.out HV2.out).mono ?_; rintro e w1 ⟨rfl, b⟩; (first | obtain ⟨x, rfl⟩ := Wb.nextd b | obtain ⟨x, rfl⟩ := Wb.next b); clear b HV1 HV2) | (refine (same_true A3 _ _ _ LA.out.2.2 HV1.out HV2.out).mono ?_; rintro e w1 ⟨rfl, b⟩; (first | obtain ⟨x, rfl⟩ := Wb.nextd b | obtain ⟨x, rfl⟩ := Wb.next b); clear b HV1 HV2)) | (go_at_call 17; refine (LO.out _).mono ?_; rintro e w1 ⟨rfl, b⟩; (first | obtain ⟨x, rfl⟩ := Wb.nextd b | obtain ⟨x, rfl⟩ := Wb.next b); clear b) | (go_at_call 18; refine (PLO.out _).mono ?_; rintro e w1 ⟨rfl, b⟩; (first | obtain ⟨x, rfl⟩ := Wb.nextd b | obtain ⟨x, rfl⟩ := Wb.next b); clear b) | (go_at_call 19; refine (ST.out _).mono ?_; rintro e w1 ⟨rfl, b⟩; (first | obtain ⟨x, rfl⟩ := Wb.nextd b | obtain ⟨x, rfl⟩ := Wb.next b); clear b) | (go_at_call 20; refine (PST.out _).mono ?_; rintro e w1 ⟨rfl, b⟩; (first | obtain ⟨x, rfl⟩ := Wb.nextd b | obtain ⟨x, rfl⟩ := Wb.next b); clear b) | (go_at_call 21; refine (AC.out _).mono ?_; rintro e w1 ⟨rfl, b⟩; (first | obtain ⟨x, rfl⟩ := Wb.nextd b | obtain ⟨x, rfl⟩ := Wb.next b); clear b) | (go_at_call 22; refine (BR.out _).mono ?_; rintro e w1 ⟨rfl, b⟩; (first | obtain ⟨x, rfl⟩ := Wb.nextd b | obtain ⟨x, rfl⟩ := Wb.next b); clear b) | (go_at_call 23; refine (PBR.out _).mono ?_; rintro e w1 ⟨rfl, b⟩; (first | obtain ⟨x, rfl⟩ := Wb.nextd b | obtain ⟨x, rfl⟩ := Wb.next b); clear b))
      refine hK.out _ _ (by first | exact KS.out _ ⟨_, rfl⟩ | exact KS.out _ (Wb.next ((Below.refl _ _).drew))) (fun hHeld => ?_)
      clear hK K
      (try simp only [Act.put, List.getElem_toArray, List.getElem_cons_zero, List.getElem_cons_succ, List.setIfInBounds_toArray, List.set_cons_zero, List.set_cons_succ])
      refine wpAnyH_take (i := 5) (v := ?_) rfl (by kernel_rfl) (by kernel_rfl) (by kernel_rfl) (fun _ _ _ h => h) (Or.inl ⟨by rfl, ?_⟩) (by assumption) ?_
      rotate_left 1
      · (intro w hSw; (try dsimp only at hSw); go_simp; try with_reducible rfl)
      (try simp only [Act.put, List.getElem_toArray, List.getElem_cons_zero, List.getElem_cons_succ, List.setIfInBounds_toArray, List.set_cons_zero, List.set_cons_succ])
      refine wpAnyH_take (i := 6) (v := ?_) rfl (by kernel_rfl) (by kernel_rfl) (by kernel_rfl) (fun _ _ _ h => h) (Or.inl ⟨by rfl, ?_⟩) (by assumption) ?_
      rotate_left 1
      · (intro w hSw; (try dsimp only at hSw); go_simp; try with_reducible rfl)
      (try simp only [Act.put, List.getElem_toArray, List.getElem_cons_zero, List.getElem_cons_succ, List.setIfInBounds_toArray, List.set_cons_zero, List.set_cons_succ])
      refine wpAnyH_take (i := 8) (v := ?_) rfl (by kernel_rfl) (by kernel_rfl) (by kernel_rfl) (fun _ _ _ h => h) (Or.inl ⟨by rfl, ?_⟩) (by assumption) ?_
      rotate_left 1
      · (intro w hSw; (try dsimp only at hSw); go_simp; try with_reducible rfl)
      (try simp only [Act.put, List.getElem_toArray, List.getElem_cons_zero, List.getElem_cons_succ, List.setIfInBounds_toArray, List.set_cons_zero, List.set_cons_succ])
      refine wpAnyH_ready (rs := [7]) (by kernel_rfl) (by simp) ?_
      refine AllReadyH.cons rfl (fun K hK => ?_) AllReadyH.nil
      go_simp
      (first | (go_at_call 11; refine (AD1.out _).mono ?_; rintro e w1 ⟨v1, rfl, hv, b⟩; (first | obtain ⟨x, rfl⟩ := Wb.nextd b | obtain ⟨x, rfl⟩ := Wb.next b); have HV1 := Lib.hid hv; clear hv b) | (go_at_call 12; refine (AD2.out _).mono ?_; rintro e w1 ⟨v2, rfl, hv, b⟩; have HV1 := Lib.hid (HV1.out.keep b); (first | obtain ⟨x, rfl⟩ := Wb.nextd b | obtain ⟨x, rfl⟩ := Wb.next b); have HV2 := Lib.hid hv; clear hv b) | (go_at_call 13; refine (DA1.out _).mono ?_; rintro e w1 ⟨v1, rfl, hv, b⟩; (first | obtain ⟨x, rfl⟩ := Wb.nextd b | obtain ⟨x, rfl⟩ := Wb.next b); have HV1 := Lib.hid hv; clear hv b) | (go_at_call 14; refine (DA2.out _).mono ?_; rintro e w1 ⟨v2, rfl, hv, b⟩; have HV1 := Lib.hid (HV1.out.keep b); (first | obtain ⟨x, rfl⟩ := Wb.nextd b | obtain ⟨x, rfl⟩ := Wb.next b); have HV2 := Lib.hid hv; clear hv b) | (go_at_call 15; refine (SE1.out _).mono ?_; rintro e w1 ⟨v1, rfl, hv, b⟩; (first | obtain ⟨x, rfl⟩ := Wb.nextd b | obtain ⟨x, rfl⟩ := Wb.next b); have HV1 := Lib.hid hv; clear hv b) | (go_at_call 16; refine (SE2.out _).mono ?_; rintro e w1 ⟨v2, rfl, hv, b⟩; have HV1 := Lib.hid (HV1.out.keep b); (first | obtain ⟨x, rfl⟩ := Wb.nextd b | obtain ⟨x, rfl⟩ := Wb.next b); have HV2 := Lib.hid hv; clear hv b) | (go_at_call 10; first | (refine (same_true A1 _ _ _ LA.out.1 HV1.out HV2.out).mono ?_; rintro e w1 ⟨rfl, b⟩; (first | obtain ⟨x, rfl⟩ := Wb.nextd b | obtain ⟨x, rfl⟩ := Wb.next b); clear b HV1 HV2) | (refine (same_true A2 _ _ _ LA.out.2.1 HV1.out HV2.out).mono ?_; rintro e w1 ⟨rfl, b⟩; (first | obtain ⟨x, rfl⟩ := Wb.nextd b | obtain ⟨x, rfl⟩ := Wb.next b); clear b HV1 HV2) | (refine (same_true A3 _ _ _ LA.out.2.2 HV1.out HV2.out).mono ?_; rintro e w1 ⟨rfl, b⟩; (first | obtain ⟨x, rfl⟩ := Wb.nextd b | obtain ⟨x, rfl⟩ := Wb.next b); clear b HV1 HV2)) | (go_at_call 17; refine (LO.out _).mono ?_; rintro e w1 ⟨rfl, b⟩; (first | obtain ⟨x, rfl⟩ := Wb.nextd b | obtain ⟨x, rfl⟩ := Wb.next b); clear b) | (go_at_call 18; refine (PLO.out _).mono ?_; rintro e w1 ⟨rfl, b⟩; (first | obtain ⟨x, rfl⟩ := Wb.nextd b | obtain ⟨x, rfl⟩ := Wb.next b); clear b) | (go_at_call 19; refine (ST.out _).mono ?_; rintro e w1 ⟨rfl, b⟩; (first | obtain ⟨x, rfl⟩ := Wb.nextd b | obtain ⟨x, rfl⟩ := Wb.next b); clear b) | (go_at_call 20; refine (PST.out _).mono ?_; rintro e w1 ⟨rfl, b⟩; (first | obtain ⟨x, rfl⟩ := Wb.nextd b | obtain ⟨x, rfl⟩ := Wb.next b); clear b) | (go_at_call 21; refine (AC.out _).mono ?_; rintro e w1 ⟨rfl, b⟩; (first | obtain ⟨x, rfl⟩ := Wb.nextd b | obtain ⟨x, rfl⟩ := Wb.next b); clear b) | (go_at_call 22; refine (BR.out _).mono ?_; rintro e w1 ⟨rfl, b⟩; (first | obtain ⟨x, rfl⟩ := Wb.nextd b | obtain ⟨x, rfl⟩ := Wb.next b); clear b) | (go_at_call 23; refine (PBR.out _).mono ?_; rintro e w1 ⟨rfl, b⟩; (first | obtain ⟨x, rfl⟩ := Wb.nextd b | obtain ⟨x, rfl⟩ := Wb.next b); clear b))
      refine hK.out _ _ (by first | exact KS.out _ ⟨_, rfl⟩ | exact KS.out _ (Wb.next ((Below.refl _ _).drew))) (fun hHeld => ?_)
      clear hK K
      (try simp only [Act.put, List.getElem_toArray, List.getElem_cons_zero, List.getElem_cons_succ, List.setIfInBounds_toArray, List.set_cons_zero, List.set_cons_succ])
      refine wpAnyH_ready (rs := [9]) (by kernel_rfl) (by simp) ?_
      refine AllReadyH.cons rfl (fun K hK => ?_) AllReadyH.nil
      go_simp
      (first | (go_at_call 11; refine (AD1.out _).mono ?_; rintro e w1 ⟨v1, rfl, hv, b⟩; (first | obtain ⟨x, rfl⟩ := Wb.nextd b | obtain ⟨x, rfl⟩ := Wb.next b); have HV1 := Lib.hid hv; clear hv b) | (go_at_call 12; refine (AD2.out _).mono ?_; rintro e w1 ⟨v2, rfl, hv, b⟩; have HV1 := Lib.hid (HV1.out.keep b); (first | obtain ⟨x, rfl⟩ := Wb.nextd b | obtain ⟨x, rfl⟩ := Wb.next b); have HV2 := Lib.hid hv; clear hv b) | (go_at_call 13; refine (DA1.out _).mono ?_; rintro e w1 ⟨v1, rfl, hv, b⟩; (first | obtain ⟨x, rfl⟩ := Wb.nextd b | obtain ⟨x, rfl⟩ := Wb.next b); have HV1 := Lib.hid hv; clear hv b) | (go_at_call 14; refine (DA2.out _).mono ?_; rintro e w1 ⟨v2, rfl, hv, b⟩; have HV1 := Lib.hid (HV1.out.keep b); (first | obtain ⟨x, rfl⟩ := Wb.nextd b | obtain ⟨x, rfl⟩ := Wb.next b); have HV2 := Lib.hid hv; clear hv b) | (go_at_call 15; refine (SE1.out _).mono ?_; rintro e w1 ⟨v1, rfl, hv, b⟩; (first | obtain ⟨x, rfl⟩ := Wb.nextd b | obtain ⟨x, rfl⟩ := Wb.next b); have HV1 := Lib.hid hv; clear hv b) | (go_at_call 16; refine (SE2.out _).mono ?_; rintro e w1 ⟨v2, rfl, hv, b⟩; have HV1 := Lib.hid (HV1.out.keep b); (first | obtain ⟨x, rfl⟩ := Wb.nextd b | obtain ⟨x, rfl⟩ := Wb.next b); have HV2 := Lib.hid hv; clear hv b) | (go_at_call 10; first | (refine (same_true A1 _ _ _ LA.out.1 HV1.out HV2.out).mono ?_; rintro e w1 ⟨rfl, b⟩; (first | obtain ⟨x, rfl⟩ := Wb.nextd b | obtain ⟨x, rfl⟩ := Wb.next b); clear b HV1 HV2) | (refine (same_true A2 _ _ _ LA.out.2.1 HV1.out HV2.out).mono ?_; rintro e w1 ⟨rfl, b⟩; (first | obtain ⟨x, rfl⟩ := Wb.nextd b | obtain ⟨x, rfl⟩ := Wb.next b); clear b HV1 HV2) | (refine (same_true A3 _ _ _ LA.out.2.2 HV1.out HV2.out).mono ?_; rintro e w1 ⟨rfl, b⟩; (first | obtain ⟨x, rfl⟩ := Wb.nextd b | obtain ⟨x, rfl⟩ := Wb.next b); clear b HV1 HV2)) | (go_at_call 17; refine (LO.out _).mono ?_; rintro e w1 ⟨rfl, b⟩; (first | obtain ⟨x, rfl⟩ := Wb.nextd b | obtain ⟨x, rfl⟩ := Wb.next b); clear b) | (go_at_call 18; refine (PLO.out _).mono ?_; rintro e w1 ⟨rfl, b⟩; (first | obtain ⟨x, rfl⟩ := Wb.nextd b | obtain ⟨x, rfl⟩ := Wb.next b); clear b) | (go_at_call 19; refine (ST.out _).mono ?_; rintro e w1 ⟨rfl, b⟩; (first | obtain ⟨x, rfl⟩ := Wb.nextd b | obtain ⟨x, rfl⟩ := Wb.next b); clear b) | (go_at_call 20; refine (PST.out _).mono ?_; rintro e w1 ⟨rfl, b⟩; (first | obtain ⟨x, rfl⟩ := Wb.nextd b | obtain ⟨x, rfl⟩ := Wb.next b); clear b) | (go_at_call 21; refine (AC.out _).mono ?_; rintro e w1 ⟨rfl, b⟩; (first | obtain ⟨x, rfl⟩ := Wb.nextd b | obtain ⟨x, rfl⟩ := Wb.next b); clear b) | (go_at_call 22; refine (BR.out _).mono ?_; rintro e w1 ⟨rfl, b⟩; (first | obtain ⟨x, rfl⟩ := Wb.nextd b | obtain ⟨x, rfl⟩ := Wb.next b); clear b) | (go_at_call 23; refine (PBR.out _).mono ?_; rintro e w1 ⟨rfl, b⟩; (first | obtain ⟨x, rfl⟩ := Wb.nextd b | obtain ⟨x, rfl⟩ := Wb.next b); clear b))
      refine hK.out _ _ (by first | exact KS.out _ ⟨_, rfl⟩ | exact KS.out _ (Wb.next ((Below.refl _ _).drew))) (fun hHeld => ?_)
      clear hK K
      (try simp only [Act.put, List.getElem_toArray, List.getElem_cons_zero, List.getElem_cons_succ, List.setIfInBounds_toArray, List.set_cons_zero, List.set_cons_succ])
      refine wpAnyH_ready (rs := [10]) (by kernel_rfl) (by simp) ?_
      refine AllReadyH.cons rfl (fun K hK => ?_) AllReadyH.nil
      go_simp
      (first | (go_at_call 11; refine (AD1.out _).mono ?_; rintro e w1 ⟨v1, rfl, hv, b⟩; (first | obtain ⟨x, rfl⟩ := Wb.nextd b | obtain ⟨x, rfl⟩ := Wb.next b); have HV1 := Lib.hid hv; clear hv b) | (go_at_call 12; refine (AD2.out _).mono ?_; rintro e w1 ⟨v2, rfl, hv, b⟩; have HV1 := Lib.hid (HV1.out.keep b); (first | obtain ⟨x, rfl⟩ := Wb.nextd b | obtain ⟨x, rfl⟩ := Wb.next b); have HV2 := Lib.hid hv; clear hv b) | (go_at_call 13; refine (DA1.out _).mono ?_; rintro e w1 ⟨v1, rfl, hv, b⟩; (first | obtain ⟨x, rfl⟩ := Wb.nextd b | obtain ⟨x, rfl⟩ := Wb.next b); have HV1 := Lib.hid hv; clear hv b) | (go_at_call 14; refine (DA2.out _).mono ?_; rintro e w1 ⟨v2, rfl, hv, b⟩; have HV1 := Lib.hid (HV1.out.keep b); (first | obtain ⟨x, rfl⟩ := Wb.nextd b | obtain ⟨x, rfl⟩ := Wb.next b); have HV2 := Lib.hid hv; clear hv b) | (go_at_call 15; refine (SE1.out _).mono ?_; rintro e w1 ⟨v1, rfl, hv, b⟩; (first | obtain ⟨x, rfl⟩ := Wb.nextd b | obtain ⟨x, rfl⟩ := Wb.next b); have HV1 := Lib.hid hv; clear hv b) | (go_at_call 16; refine (SE2.out _).mono ?_; rintro e w1 ⟨v2, rfl, hv, b⟩; have HV1 := Lib.hid (HV1.out.keep b); (first | obtain ⟨x, rfl⟩ := Wb.nextd b | obtain ⟨x, rfl⟩ := Wb.next b); have HV2 := Lib.hid hv; clear hv b) | (go_at_call 10; first | (refine (same_true A1 _ _ _ LA.out.1 HV1.out HV2.out).mono ?_; rintro e w1 ⟨rfl, b⟩; (first | obtain ⟨x, rfl⟩ := Wb.nextd b | obtain ⟨x, rfl⟩ := Wb.next b); clear b HV1 HV2) | (refine (same_true A2 _ _ _ LA.out.2.1 HV1.out HV2.out).mono ?_; rintro e w1 ⟨rfl, b⟩; (first | obtain ⟨x, rfl⟩ := Wb.nextd b | obtain ⟨x, rfl⟩ := Wb.next b); clear b HV1 HV2) | (refine (same_true A3 _ _ _ LA.out.2.2 HV1.out HV2.out).mono ?_; rintro e w1 ⟨rfl, b⟩; (first | obtain ⟨x, rfl⟩ := Wb.nextd b | obtain ⟨x, rfl⟩ := Wb.next b); clear b HV1 HV2)) | (go_at_call 17; refine (LO.out _).mono ?_; rintro e w1 ⟨rfl, b⟩; (first | obtain ⟨x, rfl⟩ := Wb.nextd b | obtain ⟨x, rfl⟩ := Wb.next b); clear b) | (go_at_call 18; refine (PLO.out _).mono ?_; rintro e w1 ⟨rfl, b⟩; (first | obtain ⟨x, rfl⟩ := Wb.nextd b | obtain ⟨x, rfl⟩ := Wb.next b); clear b) | (go_at_call 19; refine (ST.out _).mono ?_; rintro e w1 ⟨rfl, b⟩; (first | obtain ⟨x, rfl⟩ := Wb.nextd b | obtain ⟨x, rfl⟩ := Wb.next b); clear b) | (go_at_call 20; refine (PST.out _).mono ?_; rintro e w1 ⟨rfl, b⟩; (first | obtain ⟨x, rfl⟩ := Wb.nextd b | obtain ⟨x, rfl⟩ := Wb.next b); clear b) | (go_at_call 21; refine (AC.out _).mono ?_; rintro e w1 ⟨rfl, b⟩; (first | obtain ⟨x, rfl⟩ := Wb.nextd b | obtain ⟨x, rfl⟩ := Wb.next b); clear b) | (go_at_call 22; refine (BR.out _).mono ?_; rintro e w1 ⟨rfl, b⟩; (first | obtain ⟨x, rfl⟩ := Wb.nextd b | obtain ⟨x, rfl⟩ := Wb.next b); clear b) | (go_at_call 23; refine (PBR.out _).mono ?_; rintro e w1 ⟨rfl, b⟩; (first | obtain ⟨x, rfl⟩ := Wb.nextd b | obtain ⟨x, rfl⟩ := Wb.next b); clear b))
      refine hK.out _ _ (by first | exact KS.out _ ⟨_, rfl⟩ | exact KS.out _ (Wb.next ((Below.refl _ _).drew))) (fun hHeld => ?_)
      clear hK K
      (try simp only [Act.put, List.getElem_toArray, List.getElem_cons_zero, List.getElem_cons_succ, List.setIfInBounds_toArray, List.set_cons_zero, List.set_cons_succ])
      refine wpAnyH_take (i := 11) (v := ?_) rfl (by kernel_rfl) (by kernel_rfl) (by kernel_rfl) (fun _ _ _ h => h) (Or.inl ⟨by rfl, ?_⟩) (by assumption) ?_
      rotate_left 1
      · (intro w hSw; (try dsimp only at hSw); go_simp; try with_reducible rfl)
      (try simp only [Act.put, List.getElem_toArray, List.getElem_cons_zero, List.getElem_cons_succ, List.setIfInBounds_toArray, List.set_cons_zero, List.set_cons_succ])
      refine wpAnyH_take (i := 12) (v := ?_) rfl (by kernel_rfl) (by kernel_rfl) (by kernel_rfl) (fun _ _ _ h => h) (Or.inl ⟨by rfl, ?_⟩) (by assumption) ?_
      rotate_left 1
      · (intro w hSw; (try dsimp only at hSw); go_simp; try with_reducible rfl)
      (try simp only [Act.put, List.getElem_toArray, List.getElem_cons_zero, List.getElem_cons_succ, List.setIfInBounds_toArray, List.set_cons_zero, List.set_cons_succ])
      refine wpAnyH_take (i := 13) (v := ?_) rfl (by kernel_rfl) (by kernel_rfl) (by kernel_rfl) (fun _ _ _ h => h) (Or.inl ⟨by rfl, ?_⟩) (by assumption) ?_
      rotate_left 1
      · (intro w hSw; (try dsimp only at hSw); go_simp; try with_reducible rfl)
      (try simp only [Act.put, List.getElem_toArray, List.getElem_cons_zero, List.getElem_cons_succ, List.setIfInBounds_toArray, List.set_cons_zero, List.set_cons_succ])
      refine wpAnyH_take (i := 15) (v := ?_) rfl (by kernel_rfl) (by kernel_rfl) (by kernel_rfl) (fun _ _ _ h => h) (Or.inl ⟨by rfl, ?_⟩) (by assumption) ?_
      rotate_left 1
      · (intro w hSw; (try dsimp only at hSw); go_simp; try with_reducible rfl)
      (try simp only [Act.put, List.getElem_toArray, List.getElem_cons_zero, List.getElem_cons_succ, List.setIfInBounds_toArray, List.set_cons_zero, List.set_cons_succ])
      refine wpAnyH_ready (rs := [14]) (by kernel_rfl) (by simp) ?_
      refine AllReadyH.cons rfl (fun K hK => ?_) AllReadyH.nil
      go_simp
      (first | (go_at_call 11; refine (AD1.out _).mono ?_; rintro e w1 ⟨v1, rfl, hv, b⟩; (first | obtain ⟨x, rfl⟩ := Wb.nextd b | obtain ⟨x, rfl⟩ := Wb.next b); have HV1 := Lib.hid hv; clear hv b) | (go_at_call 12; refine (AD2.out _).mono ?_; rintro e w1 ⟨v2, rfl, hv, b⟩; have HV1 := Lib.hid (HV1.out.keep b); (first | obtain ⟨x, rfl⟩ := Wb.nextd b | obtain ⟨x, rfl⟩ := Wb.next b); have HV2 := Lib.hid hv; clear hv b) | (go_at_call 13; refine (DA1.out _).mono ?_; rintro e w1 ⟨v1, rfl, hv, b⟩; (first | obtain ⟨x, rfl⟩ := Wb.nextd b | obtain ⟨x, rfl⟩ := Wb.next b); have HV1 := Lib.hid hv; clear hv b) | (go_at_call 14; refine (DA2.out _).mono ?_; rintro e w1 ⟨v2, rfl, hv, b⟩; have HV1 := Lib.hid (HV1.out.keep b); (first | obtain ⟨x, rfl⟩ := Wb.nextd b | obtain ⟨x, rfl⟩ := Wb.next b); have HV2 := Lib.hid hv; clear hv b) | (go_at_call 15; refine (SE1.out _).mono ?_; rintro e w1 ⟨v1, rfl, hv, b⟩; (first | obtain ⟨x, rfl⟩ := Wb.nextd b | obtain ⟨x, rfl⟩ := Wb.next b); have HV1 := Lib.hid hv; clear hv b) | (go_at_call 16; refine (SE2.out _).mono ?_; rintro e w1 ⟨v2, rfl, hv, b⟩; have HV1 := Lib.hid (HV1.out.keep b); (first | obtain ⟨x, rfl⟩ := Wb.nextd b | obtain ⟨x, rfl⟩ := Wb.next b); have HV2 := Lib.hid hv; clear hv b) | (go_at_call 10; first | (refine (same_true A1 _ _ _ LA.out.1 HV1.out HV2.out).mono ?_; rintro e w1 ⟨rfl, b⟩; (first | obtain ⟨x, rfl⟩ := Wb.nextd b | obtain ⟨x, rfl⟩ := Wb.next b); clear b HV1 HV2) | (refine (same_true A2 _ _ _ LA.out.2.1 HV1.out HV2.out).mono ?_; rintro e w1 ⟨rfl, b⟩; (first | obtain ⟨x, rfl⟩ := Wb.nextd b | obtain ⟨x, rfl⟩ := Wb.next b); clear b HV1 HV2) | (refine (same_true A3 _ _ _ LA.out.2.2 HV1.out HV2.out).mono ?_; rintro e w1 ⟨rfl, b⟩; (first | obtain ⟨x, rfl⟩ := Wb.nextd b | obtain ⟨x, rfl⟩ := Wb.next b); clear b HV1 HV2)) | (go_at_call 17; refine (LO.out _).mono ?_; rintro e w1 ⟨rfl, b⟩; (first | obtain ⟨x, rfl⟩ := Wb.nextd b | obtain ⟨x, rfl⟩ := Wb.next b); clear b) | (go_at_call 18; refine (PLO.out _).mono ?_; rintro e w1 ⟨rfl, b⟩; (first | obtain ⟨x, rfl⟩ := Wb.nextd b | obtain ⟨x, rfl⟩ := Wb.next b); clear b) | (go_at_call 19; refine (ST.out _).mono ?_; rintro e w1 ⟨rfl, b⟩; (first | obtain ⟨x, rfl⟩ := Wb.nextd b | obtain ⟨x, rfl⟩ := Wb.next b); clear b) | (go_at_call 20; refine (PST.out _).mono ?_; rintro e w1 ⟨rfl, b⟩; (first | obtain ⟨x, rfl⟩ := Wb.nextd b | obtain ⟨x, rfl⟩ := Wb.next b); clear b) | (go_at_call 21; refine (AC.out _).mono ?_; rintro e w1 ⟨rfl, b⟩; (first | obtain ⟨x, rfl⟩ := Wb.nextd b | obtain ⟨x, rfl⟩ := Wb.next b); clear b) | (go_at_call 22; refine (BR.out _).mono ?_; rintro e w1 ⟨rfl, b⟩; (first | obtain ⟨x, rfl⟩ := Wb.nextd b | obtain ⟨x, rfl⟩ := Wb.next b); clear b) | (go_at_call 23; refine (PBR.out _).mono ?_; rintro e w1 ⟨rfl, b⟩; (first | obtain ⟨x, rfl⟩ := Wb.nextd b | obtain ⟨x, rfl⟩ := Wb.next b); clear b))
      refine hK.out _ _ (by first | exact KS.out _ ⟨_, rfl⟩ | exact KS.out _ (Wb.next ((Below.refl _ _).drew))) (fun hHeld => ?_)
      clear hK K
      (try simp only [Act.put, List.getElem_toArray, List.getElem_cons_zero, List.getElem_cons_succ, List.setIfInBounds_toArray, List.set_cons_zero, List.set_cons_succ])
      refine wpAnyH_ready (rs := [16]) (by kernel_rfl) (by simp) ?_
      refine AllReadyH.cons rfl (fun K hK => ?_) AllReadyH.nil
      go_simp
      (first | (go_at_call 11; refine (AD1.out _).mono ?_; rintro e w1 ⟨v1, rfl, hv, b⟩; (first | obtain ⟨x, rfl⟩ := Wb.nextd b | obtain ⟨x, rfl⟩ := Wb.next b); have HV1 := Lib.hid hv; clear hv b) | (go_at_call 12; refine (AD2.out _).mono ?_; rintro e w1 ⟨v2, rfl, hv, b⟩; have HV1 := Lib.hid (HV1.out.keep b); (first | obtain ⟨x, rfl⟩ := Wb.nextd b | obtain ⟨x, rfl⟩ := Wb.next b); have HV2 := Lib.hid hv; clear hv b) | (go_at_call 13; refine (DA1.out _).mono ?_; rintro e w1 ⟨v1, rfl, hv, b⟩; (first | obtain ⟨x, rfl⟩ := Wb.nextd b | obtain ⟨x, rfl⟩ := Wb.next b); have HV1 := Lib.hid hv; clear hv b) | (go_at_call 14; refine (DA2.out _).mono ?_; rintro e w1 ⟨v2, rfl, hv, b⟩; have HV1 := Lib.hid (HV1.out.keep b); (first | obtain ⟨x, rfl⟩ := Wb.nextd b | obtain ⟨x, rfl⟩ := Wb.next b); have HV2 := Lib.hid hv; clear hv b) | (go_at_call 15; refine (SE1.out _).mono ?_; rintro e w1 ⟨v1, rfl, hv, b⟩; (first | obtain ⟨x, rfl⟩ := Wb.nextd b | obtain ⟨x, rfl⟩ := Wb.next b); have HV1 := Lib.hid hv; clear hv b) | (go_at_call 16; refine (SE2.out _).mono ?_; rintro e w1 ⟨v2, rfl, hv, b⟩; have HV1 := Lib.hid (HV1.out.keep b); (first | obtain ⟨x, rfl⟩ := Wb.nextd b | obtain ⟨x, rfl⟩ := Wb.next b); have HV2 := Lib.hid hv; clear hv b) | (go_at_call 10; first | (refine (same_true A1 _ _ _ LA.out.1 HV1.out HV2.out).mono ?_; rintro e w1 ⟨rfl, b⟩; (first | obtain ⟨x, rfl⟩ := Wb.nextd b | obtain ⟨x, rfl⟩ := Wb.next b); clear b HV1 HV2) | (refine (same_true A2 _ _ _ LA.out.2.1 HV1.out HV2.out).mono ?_; rintro e w1 ⟨rfl, b⟩; (first | obtain ⟨x, rfl⟩ := Wb.nextd b | obtain ⟨x, rfl⟩ := Wb.next b); clear b HV1 HV2) | (refine (same_true A3 _ _ _ LA.out.2.2 HV1.out HV2.out).mono ?_; rintro e w1 ⟨rfl, b⟩; (first | obtain ⟨x, rfl⟩ := Wb.nextd b | obtain ⟨x, rfl⟩ := Wb.next b); clear b HV1 HV2)) | (go_at_call 17; refine (LO.out _).mono ?_; rintro e w1 ⟨rfl, b⟩; (first | obtain ⟨x, rfl⟩ := Wb.nextd b | obtain ⟨x, rfl⟩ := Wb.next b); clear b) | (go_at_call 18; refine (PLO.out _).mono ?_; rintro e w1 ⟨rfl, b⟩; (first | obtain ⟨x, rfl⟩ := Wb.nextd b | obtain ⟨x, rfl⟩ := Wb.next b); clear b) | (go_at_call 19; refine (ST.out _).mono ?_; rintro e w1 ⟨rfl, b⟩; (first | obtain ⟨x, rfl⟩ := Wb.nextd b | obtain ⟨x, rfl⟩ := Wb.next b); clear b) | (go_at_call 20; refine (PST.out _).mono ?_; rintro e w1 ⟨rfl, b⟩; (first | obtain ⟨x, rfl⟩ := Wb.nextd b | obtain ⟨x, rfl⟩ := Wb.next b); clear b) | (go_at_call 21; refine (AC.out _).mono ?_; rintro e w1 ⟨rfl, b⟩; (first | obtain ⟨x, rfl⟩ := Wb.nextd b | obtain ⟨x, rfl⟩ := Wb.next b); clear b) | (go_at_call 22; refine (BR.out _).mono ?_; rintro e w1 ⟨rfl, b⟩; (first | obtain ⟨x, rfl⟩ := Wb.nextd b | obtain ⟨x, rfl⟩ := Wb.next b); clear b) | (go_at_call 23; refine (PBR.out _).mono ?_; rintro e w1 ⟨rfl, b⟩; (first | obtain ⟨x, rfl⟩ := Wb.nextd b | obtain ⟨x, rfl⟩ := Wb.next b); clear b))
      refine hK.out _ _ (by first | exact KS.out _ ⟨_, rfl⟩ | exact KS.out _ (Wb.next ((Below.refl _ _).drew))) (fun hHeld => ?_)
      clear hK K
      (try simp only [Act.put, List.getElem_toArray, List.getElem_cons_zero, List.getElem_cons_succ, List.setIfInBounds_toArray, List.set_cons_zero, List.set_cons_succ])
      refine wpAnyH_ready (rs := [17]) (by kernel_rfl) (by simp) ?_
      refine AllReadyH.cons rfl (fun K hK => ?_) AllReadyH.nil
      go_simp
      (first | (go_at_call 11; refine (AD1.out _).mono ?_; rintro e w1 ⟨v1, rfl, hv, b⟩; (first | obtain ⟨x, rfl⟩ := Wb.nextd b | obtain ⟨x, rfl⟩ := Wb.next b); have HV1 := Lib.hid hv; clear hv b) | (go_at_call 12; refine (AD2.out _).mono ?_; rintro e w1 ⟨v2, rfl, hv, b⟩; have HV1 := Lib.hid (HV1.out.keep b); (first | obtain ⟨x, rfl⟩ := Wb.nextd b | obtain ⟨x, rfl⟩ := Wb.next b); have HV2 := Lib.hid hv; clear hv b) | (go_at_call 13; refine (DA1.out _).mono ?_; rintro e w1 ⟨v1, rfl, hv, b⟩; (first | obtain ⟨x, rfl⟩ := Wb.nextd b | obtain ⟨x, rfl⟩ := Wb.next b); have HV1 := Lib.hid hv; clear hv b) | (go_at_call 14; refine (DA2.out _).mono ?_; rintro e w1 ⟨v2, rfl, hv, b⟩; have HV1 := Lib.hid (HV1.out.keep b); (first | obtain ⟨x, rfl⟩ := Wb.nextd b | obtain ⟨x, rfl⟩ := Wb.next b); have HV2 := Lib.hid hv; clear hv b) | (go_at_call 15; refine (SE1.out _).mono ?_; rintro e w1 ⟨v1, rfl, hv, b⟩; (first | obtain ⟨x, rfl⟩ := Wb.nextd b | obtain ⟨x, rfl⟩ := Wb.next b); have HV1 := Lib.hid hv; clear hv b) | (go_at_call 16; refine (SE2.out _).mono ?_; rintro e w1 ⟨v2, rfl, hv, b⟩; have HV1 := Lib.hid (HV1.out.keep b); (first | obtain ⟨x, rfl⟩ := Wb.nextd b | obtain ⟨x, rfl⟩ := Wb.next b); have HV2 := Lib.hid hv; clear hv b) | (go_at_call 10; first | (refine (same_true A1 _ _ _ LA.out.1 HV1.out HV2.out).mono ?_; rintro e w1 ⟨rfl, b⟩; (first | obtain ⟨x, rfl⟩ := Wb.nextd b | obtain ⟨x, rfl⟩ := Wb.next b); clear b HV1 HV2) | (refine (same_true A2 _ _ _ LA.out.2.1 HV1.out HV2.out).mono ?_; rintro e w1 ⟨rfl, b⟩; (first | obtain ⟨x, rfl⟩ := Wb.nextd b | obtain ⟨x, rfl⟩ := Wb.next b); clear b HV1 HV2) | (refine (same_true A3 _ _ _ LA.out.2.2 HV1.out HV2.out).mono ?_; rintro e w1 ⟨rfl, b⟩; (first | obtain ⟨x, rfl⟩ := Wb.nextd b | obtain ⟨x, rfl⟩ := Wb.next b); clear b HV1 HV2)) | (go_at_call 17; refine (LO.out _).mono ?_; rintro e w1 ⟨rfl, b⟩; (first | obtain ⟨x, rfl⟩ := Wb.nextd b | obtain ⟨x, rfl⟩ := Wb.next b); clear b) | (go_at_call 18; refine (PLO.out _).mono ?_; rintro e w1 ⟨rfl, b⟩; (first | obtain ⟨x, rfl⟩ := Wb.nextd b | obtain ⟨x, rfl⟩ := Wb.next b); clear b) | (go_at_call 19; refine (ST.out _).mono ?_; rintro e w1 ⟨rfl, b⟩; (first | obtain ⟨x, rfl⟩ := Wb.nextd b | obtain ⟨x, rfl⟩ := Wb.next b); clear b) | (go_at_call 20; refine (PST.out _).mono ?_; rintro e w1 ⟨rfl, b⟩; (first | obtain ⟨x, rfl⟩ := Wb.nextd b | obtain ⟨x, rfl⟩ := Wb.next b); clear b) | (go_at_call 21; refine (AC.out _).mono ?_; rintro e w1 ⟨rfl, b⟩; (first | obtain ⟨x, rfl⟩ := Wb.nextd b | obtain ⟨x, rfl⟩ := Wb.next b); clear b) | (go_at_call 22; refine (BR.out _).mono ?_; rintro e w1 ⟨rfl, b⟩; (first | obtain ⟨x, rfl⟩ := Wb.nextd b | obtain ⟨x, rfl⟩ := Wb.next b); clear b) | (go_at_call 23; refine (PBR.out _).mono ?_; rintro e w1 ⟨rfl, b⟩; (first | obtain ⟨x, rfl⟩ := Wb.nextd b | obtain ⟨x, rfl⟩ := Wb.next b); clear b))
      refine hK.out _ _ (by first | exact KS.out _ ⟨_, rfl⟩ | exact KS.out _ (Wb.next ((Below.refl _ _).drew))) (fun hHeld => ?_)
      clear hK K
      (try simp only [Act.put, List.getElem_toArray, List.getElem_cons_zero, List.getElem_cons_succ, List.setIfInBounds_toArray, List.set_cons_zero, List.set_cons_succ])
      refine wpAnyH_take (i := 18) (v := ?_) rfl (by kernel_rfl) (by kernel_rfl) (by kernel_rfl) (fun _ _ _ h => h) (Or.inl ⟨by rfl, ?_⟩) (by assumption) ?_
      rotate_left 1
      · (intro w hSw; (try dsimp only at hSw); go_simp; try with_reducible rfl)
      (try simp only [Act.put, List.getElem_toArray, List.getElem_cons_zero, List.getElem_cons_succ, List.setIfInBounds_toArray, List.set_cons_zero, List.set_cons_succ])
      refine wpAnyH_take (i := 19) (v := ?_) rfl (by kernel_rfl) (by kernel_rfl) (by kernel_rfl) (fun _ _ _ h => h) (Or.inl ⟨by rfl, ?_⟩) (by assumption) ?_
      rotate_left 1
      · (intro w hSw; (try dsimp only at hSw); go_simp; try with_reducible rfl)
      (try simp only [Act.put, List.getElem_toArray, List.getElem_cons_zero, List.getElem_cons_succ, List.setIfInBounds_toArray, List.set_cons_zero, List.set_cons_succ])
      refine wpAnyH_take (i := 20) (v := ?_) rfl (by kernel_rfl) (by kernel_rfl) (by kernel_rfl) (fun _ _ _ h => h) (Or.inl ⟨by rfl, ?_⟩) (by assumption) ?_
      rotate_left 1
      · (intro w hSw; (try dsimp only at hSw); go_simp; try with_reducible rfl)
      (try simp only [Act.put, List.getElem_toArray, List.getElem_cons_zero, List.getElem_cons_succ, List.setIfInBounds_toArray, List.set_cons_zero, List.set_cons_succ])
      refine wpAnyH_take (i := 22) (v := ?_) rfl (by kernel_rfl) (by kernel_rfl) (by kernel_rfl) (fun _ _ _ h => h) (Or.inl ⟨by rfl, ?_⟩) (by assumption) ?_
      rotate_left 1
      · (intro w hSw; (try dsimp only at hSw); go_simp; try with_reducible rfl)
      (try simp only [Act.put, List.getElem_toArray, List.getElem_cons_zero, List.getElem_cons_succ, List.setIfInBounds_toArray, List.set_cons_zero, List.set_cons_succ])
      refine wpAnyH_ready (rs := [21]) (by kernel_rfl) (by simp) ?_
      refine AllReadyH.cons rfl (fun K hK => ?_) AllReadyH.nil
      go_simp
      (first | (go_at_call 11; refine (AD1.out _).mono ?_; rintro e w1 ⟨v1, rfl, hv, b⟩; (first | obtain ⟨x, rfl⟩ := Wb.nextd b | obtain ⟨x, rfl⟩ := Wb.next b); have HV1 := Lib.hid hv; clear hv b) | (go_at_call 12; refine (AD2.out _).mono ?_; rintro e w1 ⟨v2, rfl, hv, b⟩; have HV1 := Lib.hid (HV1.out.keep b); (first | obtain ⟨x, rfl⟩ := Wb.nextd b | obtain ⟨x, rfl⟩ := Wb.next b); have HV2 := Lib.hid hv; clear hv b) | (go_at_call 13; refine (DA1.out _).mono ?_; rintro e w1 ⟨v1, rfl, hv, b⟩; (first | obtain ⟨x, rfl⟩ := Wb.nextd b | obtain ⟨x, rfl⟩ := Wb.next b); have HV1 := Lib.hid hv; clear hv b) | (go_at_call 14; refine (DA2.out _).mono ?_; rintro e w1 ⟨v2, rfl, hv, b⟩; have HV1 := Lib.hid (HV1.out.keep b); (first | obtain ⟨x, rfl⟩ := Wb.nextd b | obtain ⟨x, rfl⟩ := Wb.next b); have HV2 := Lib.hid hv; clear hv b) | (go_at_call 15; refine (SE1.out _).mono ?_; rintro e w1 ⟨v1, rfl, hv, b⟩; (first | obtain ⟨x, rfl⟩ := Wb.nextd b | obtain ⟨x, rfl⟩ := Wb.next b); have HV1 := Lib.hid hv; clear hv b) | (go_at_call 16; refine (SE2.out _).mono ?_; rintro e w1 ⟨v2, rfl, hv, b⟩; have HV1 := Lib.hid (HV1.out.keep b); (first | obtain ⟨x, rfl⟩ := Wb.nextd b | obtain ⟨x, rfl⟩ := Wb.next b); have HV2 := Lib.hid hv; clear hv b) | (go_at_call 10; first | (refine (same_true A1 _ _ _ LA.out.1 HV1.out HV2.out).mono ?_; rintro e w1 ⟨rfl, b⟩; (first | obtain ⟨x, rfl⟩ := Wb.nextd b | obtain ⟨x, rfl⟩ := Wb.next b); clear b HV1 HV2) | (refine (same_true A2 _ _ _ LA.out.2.1 HV1.out HV2.out).mono ?_; rintro e w1 ⟨rfl, b⟩; (first | obtain ⟨x, rfl⟩ := Wb.nextd b | obtain ⟨x, rfl⟩ := Wb.next b); clear b HV1 HV2) | (refine (same_true A3 _ _ _ LA.out.2.2 HV1.out HV2.out).mono ?_; rintro e w1 ⟨rfl, b⟩; (first | obtain ⟨x, rfl⟩ := Wb.nextd b | obtain ⟨x, rfl⟩ := Wb.next b); clear b HV1 HV2)) | (go_at_call 17; refine (LO.out _).mono ?_; rintro e w1 ⟨rfl, b⟩; (first | obtain ⟨x, rfl⟩ := Wb.nextd b | obtain ⟨x, rfl⟩ := Wb.next b); clear b) | (go_at_call 18; refine (PLO.out _).mono ?_; rintro e w1 ⟨rfl, b⟩; (first | obtain ⟨x, rfl⟩ := Wb.nextd b | obtain ⟨x, rfl⟩ := Wb.next b); clear b) | (go_at_call 19; refine (ST.out _).mono ?_; rintro e w1 ⟨rfl, b⟩; (first | obtain ⟨x, rfl⟩ := Wb.nextd b | obtain ⟨x, rfl⟩ := Wb.next b); clear b) | (go_at_call 20; refine (PST.out _).mono ?_; rintro e w1 ⟨rfl, b⟩; (first | obtain ⟨x, rfl⟩ := Wb.nextd b | obtain ⟨x, rfl⟩ := Wb.next b); clear b) | (go_at_call 21; refine (AC.out _).mono ?_; rintro e w1 ⟨rfl, b⟩; (first | obtain ⟨x, rfl⟩ := Wb.nextd b | obtain ⟨x, rfl⟩ := Wb.next b); clear b) | (go_at_call 22; refine (BR.out _).mono ?_; rintro e w1 ⟨rfl, b⟩; (first | obtain ⟨x, rfl⟩ := Wb.nextd b | obtain ⟨x, rfl⟩ := Wb.next b); clear b) | (go_at_call 23; refine (PBR.out _).mono ?_; rintro e w1 ⟨rfl, b⟩; (first | obtain ⟨x, rfl⟩ := Wb.nextd b | obtain ⟨x, rfl⟩ := Wb.next b); clear b))
      refine hK.out _ _ (by first | exact KS.out _ ⟨_, rfl⟩ | exact KS.out _ (Wb.next ((Below.refl _ _).drew))) (fun hHeld => ?_)
      clear hK K
      (try simp only [Act.put, List.getElem_toArray, List.getElem_cons_zero, List.getElem_cons_succ, List.setIfInBounds_toArray, List.set_cons_zero, List.set_cons_succ])
      refine wpAnyH_ready (rs := [23]) (by kernel_rfl) (by simp) ?_
      refine AllReadyH.cons rfl (fun K hK => ?_) AllReadyH.nil
      go_simp
      (first | (go_at_call 11; refine (AD1.out _).mono ?_; rintro e w1 ⟨v1, rfl, hv, b⟩; (first | obtain ⟨x, rfl⟩ := Wb.nextd b | obtain ⟨x, rfl⟩ := Wb.next b); have HV1 := Lib.hid hv; clear hv b) | (go_at_call 12; refine (AD2.out _).mono ?_; rintro e w1 ⟨v2, rfl, hv, b⟩; have HV1 := Lib.hid (HV1.out.keep b); (first | obtain ⟨x, rfl⟩ := Wb.nextd b | obtain ⟨x, rfl⟩ := Wb.next b); have HV2 := Lib.hid hv; clear hv b) | (go_at_call 13; refine (DA1.out _).mono ?_; rintro e w1 ⟨v1, rfl, hv, b⟩; (first | obtain ⟨x, rfl⟩ := Wb.nextd b | obtain ⟨x, rfl⟩ := Wb.next b); have HV1 := Lib.hid hv; clear hv b) | (go_at_call 14; refine (DA2.out _).mono ?_; rintro e w1 ⟨v2, rfl, hv, b⟩; have HV1 := Lib.hid (HV1.out.keep b); (first | obtain ⟨x, rfl⟩ := Wb.nextd b | obtain ⟨x, rfl⟩ := Wb.next b); have HV2 := Lib.hid hv; clear hv b) | (go_at_call 15; refine (SE1.out _).mono ?_; rintro e w1 ⟨v1, rfl, hv, b⟩; (first | obtain ⟨x, rfl⟩ := Wb.nextd b | obtain ⟨x, rfl⟩ := Wb.next b); have HV1 := Lib.hid hv; clear hv b) | (go_at_call 16; refine (SE2.out _).mono ?_; rintro e w1 ⟨v2, rfl, hv, b⟩; have HV1 := Lib.hid (HV1.out.keep b); (first | obtain ⟨x, rfl⟩ := Wb.nextd b | obtain ⟨x, rfl⟩ := Wb.next b); have HV2 := Lib.hid hv; clear hv b) | (go_at_call 10; first | (refine (same_true A1 _ _ _ LA.out.1 HV1.out HV2.out).mono ?_; rintro e w1 ⟨rfl, b⟩; (first | obtain ⟨x, rfl⟩ := Wb.nextd b | obtain ⟨x, rfl⟩ := Wb.next b); clear b HV1 HV2) | (refine (same_true A2 _ _ _ LA.out.2.1 HV1.out HV2.out).mono ?_; rintro e w1 ⟨rfl, b⟩; (first | obtain ⟨x, rfl⟩ := Wb.nextd b | obtain ⟨x, rfl⟩ := Wb.next b); clear b HV1 HV2) | (refine (same_true A3 _ _ _ LA.out.2.2 HV1.out HV2.out).mono ?_; rintro e w1 ⟨rfl, b⟩; (first | obtain ⟨x, rfl⟩ := Wb.nextd b | obtain ⟨x, rfl⟩ := Wb.next b); clear b HV1 HV2)) | (go_at_call 17; refine (LO.out _).mono ?_; rintro e w1 ⟨rfl, b⟩; (first | obtain ⟨x, rfl⟩ := Wb.nextd b | obtain ⟨x, rfl⟩ := Wb.next b); clear b) | (go_at_call 18; refine (PLO.out _).mono ?_; rintro e w1 ⟨rfl, b⟩; (first | obtain ⟨x, rfl⟩ := Wb.nextd b | obtain ⟨x, rfl⟩ := Wb.next b); clear b) | (go_at_call 19; refine (ST.out _).mono ?_; rintro e w1 ⟨rfl, b⟩; (first | obtain ⟨x, rfl⟩ := Wb.nextd b | obtain ⟨x, rfl⟩ := Wb.next b); clear b) | (go_at_call 20; refine (PST.out _).mono ?_; rintro e w1 ⟨rfl, b⟩; (first | obtain ⟨x, rfl⟩ := Wb.nextd b | obtain ⟨x, rfl⟩ := Wb.next b); clear b) | (go_at_call 21; refine (AC.out _).mono ?_; rintro e w1 ⟨rfl, b⟩; (first | obtain ⟨x, rfl⟩ := Wb.nextd b | obtain ⟨x, rfl⟩ := Wb.next b); clear b) | (go_at_call 22; refine (BR.out _).mono ?_; rintro e w1 ⟨rfl, b⟩; (first | obtain ⟨x, rfl⟩ := Wb.nextd b | obtain ⟨x, rfl⟩ := Wb.next b); clear b) | (go_at_call 23; refine (PBR.out _).mono ?_; rintro e w1 ⟨rfl, b⟩; (first | obtain ⟨x, rfl⟩ := Wb.nextd b | obtain ⟨x, rfl⟩ := Wb.next b); clear b))
      refine hK.out _ _ (by first | exact KS.out _ ⟨_, rfl⟩ | exact KS.out _ (Wb.next ((Below.refl _ _).drew))) (fun hHeld => ?_)
      clear hK K
      (try simp only [Act.put, List.getElem_toArray, List.getElem_cons_zero, List.getElem_cons_succ, List.setIfInBounds_toArray, List.set_cons_zero, List.set_cons_succ])
      refine wpAnyH_take (i := 24) (v := ?_) rfl (by kernel_rfl) (by kernel_rfl) (by kernel_rfl) (fun _ _ _ h => h) (Or.inl ⟨by rfl, ?_⟩) (by assumption) ?_
      rotate_left 1
      · (intro w hSw; (try dsimp only at hSw); go_simp; try with_reducible rfl)
      (try simp only [Act.put, List.getElem_toArray, List.getElem_cons_zero, List.getElem_cons_succ, List.setIfInBounds_toArray, List.set_cons_zero, List.set_cons_succ])
      refine wpAnyH_take (i := 25) (v := ?_) rfl (by kernel_rfl) (by kernel_rfl) (by kernel_rfl) (fun _ _ _ h => h) (Or.inl ⟨by rfl, ?_⟩) (by assumption) ?_
      rotate_left 1
      · (intro w hSw; (try dsimp only at hSw); go_simp; try with_reducible rfl)
      (try simp only [Act.put, List.getElem_toArray, List.getElem_cons_zero, List.getElem_cons_succ, List.setIfInBounds_toArray, List.set_cons_zero, List.set_cons_succ])
      refine wpAnyH_take (i := 26) (v := ?_) rfl (by kernel_rfl) (by kernel_rfl) (by kernel_rfl) (fun _ _ _ h => h) (Or.inl ⟨by rfl, ?_⟩) (by assumption) ?_
      rotate_left 1
      · (intro w hSw; (try dsimp only at hSw); go_simp; try with_reducible rfl)
      (try simp only [Act.put, List.getElem_toArray, List.getElem_cons_zero, List.getElem_cons_succ, List.setIfInBounds_toArray, List.set_cons_zero, List.set_cons_succ])
      refine wpAnyH_take (i := 27) (v := ?_) rfl (by kernel_rfl) (by kernel_rfl) (by kernel_rfl) (fun _ _ _ h => h) (Or.inl ⟨by rfl, ?_⟩) (by assumption) ?_
      rotate_left 1
      · (intro w hSw; (try dsimp only at hSw); go_simp; try with_reducible rfl)
      (try simp only [Act.put, List.getElem_toArray, List.getElem_cons_zero, List.getElem_cons_succ, List.setIfInBounds_toArray, List.set_cons_zero, List.set_cons_succ])
      refine wpAnyH_take (i := 29) (v := ?_) rfl (by kernel_rfl) (by kernel_rfl) (by kernel_rfl) (fun _ _ _ h => h) (Or.inl ⟨by rfl, ?_⟩) (by assumption) ?_
      rotate_left 1
      · (intro w hSw; (try dsimp only at hSw); go_simp; try with_reducible rfl)
      (try simp only [Act.put, List.getElem_toArray, List.getElem_cons_zero, List.getElem_cons_succ, List.setIfInBounds_toArray, List.set_cons_zero, List.set_cons_succ])
      refine wpAnyH_ready (rs := [28]) (by kernel_rfl) (by simp) ?_
      refine AllReadyH.cons rfl (fun K hK => ?_) AllReadyH.nil
      go_simp
      (first | (go_at_call 11; refine (AD1.out _).mono ?_; rintro e w1 ⟨v1, rfl, hv, b⟩; (first | obtain ⟨x, rfl⟩ := Wb.nextd b | obtain ⟨x, rfl⟩ := Wb.next b); have HV1 := Lib.hid hv; clear hv b) | (go_at_call 12; refine (AD2.out _).mono ?_; rintro e w1 ⟨v2, rfl, hv, b⟩; have HV1 := Lib.hid (HV1.out.keep b); (first | obtain ⟨x, rfl⟩ := Wb.nextd b | obtain ⟨x, rfl⟩ := Wb.next b); have HV2 := Lib.hid hv; clear hv b) | (go_at_call 13; refine (DA1.out _).mono ?_; rintro e w1 ⟨v1, rfl, hv, b⟩; (first | obtain ⟨x, rfl⟩ := Wb.nextd b | obtain ⟨x, rfl⟩ := Wb.next b); have HV1 := Lib.hid hv; clear hv b) | (go_at_call 14; refine (DA2.out _).mono ?_; rintro e w1 ⟨v2, rfl, hv, b⟩; have HV1 := Lib.hid (HV1.out.keep b); (first | obtain ⟨x, rfl⟩ := Wb.nextd b | obtain ⟨x, rfl⟩ := Wb.next b); have HV2 := Lib.hid hv; clear hv b) | (go_at_call 15; refine (SE1.out _).mono ?_; rintro e w1 ⟨v1, rfl, hv, b⟩; (first | obtain ⟨x, rfl⟩ := Wb.nextd b | obtain ⟨x, rfl⟩ := Wb.next b); have HV1 := Lib.hid hv; clear hv b) | (go_at_call 16; refine (SE2.out _).mono ?_; rintro e w1 ⟨v2, rfl, hv, b⟩; have HV1 := Lib.hid (HV1.out.keep b); (first | obtain ⟨x, rfl⟩ := Wb.nextd b | obtain ⟨x, rfl⟩ := Wb.next b); have HV2 := Lib.hid hv; clear hv b) | (go_at_call 10; first | (refine (same_true A1 _ _ _ LA.out.1 HV1.out HV2.out).mono ?_; rintro e w1 ⟨rfl, b⟩; (first | obtain ⟨x, rfl⟩ := Wb.nextd b | obtain ⟨x, rfl⟩ := Wb.next b); clear b HV1 HV2) | (refine (same_true A2 _ _ _ LA.out.2.1 HV1.out HV2.out).mono ?_; rintro e w1 ⟨rfl, b⟩; (first | obtain ⟨x, rfl⟩ := Wb.nextd b | obtain ⟨x, rfl⟩ := Wb.next b); clear b HV1 HV2) | (refine (same_true A3 _ _ _ LA.out.2.2 HV1.out HV2.out).mono ?_; rintro e w1 ⟨rfl, b⟩; (first | obtain ⟨x, rfl⟩ := Wb.nextd b | obtain ⟨x, rfl⟩ := Wb.next b); clear b HV1 HV2)) | (go_at_call 17; refine (LO.out _).mono ?_; rintro e w1 ⟨rfl, b⟩; (first | obtain ⟨x, rfl⟩ := Wb.nextd b | obtain ⟨x, rfl⟩ := Wb.next b); clear b) | (go_at_call 18; refine (PLO.out _).mono ?_; rintro e w1 ⟨rfl, b⟩; (first | obtain ⟨x, rfl⟩ := Wb.nextd b | obtain ⟨x, rfl⟩ := Wb.next b); clear b) | (go_at_call 19; refine (ST.out _).mono ?_; rintro e w1 ⟨rfl, b⟩; (first | obtain ⟨x, rfl⟩ := Wb.nextd b | obtain ⟨x, rfl⟩ := Wb.next b); clear b) | (go_at_call 20; refine (PST.out _).mono ?_; rintro e w1 ⟨rfl, b⟩; (first | obtain ⟨x, rfl⟩ := Wb.nextd b | obtain ⟨x, rfl⟩ := Wb.next b); clear b) | (go_at_call 21; refine (AC.out _).mono ?_; rintro e w1 ⟨rfl, b⟩; (first | obtain ⟨x, rfl⟩ := Wb.nextd b | obtain ⟨x, rfl⟩ := Wb.next b); clear b) | (go_at_call 22; refine (BR.out _).mono ?_; rintro e w1 ⟨rfl, b⟩; (first | obtain ⟨x, rfl⟩ := Wb.nextd b | obtain ⟨x, rfl⟩ := Wb.next b); clear b) | (go_at_call 23; refine (PBR.out _).mono ?_; rintro e w1 ⟨rfl, b⟩; (first | obtain ⟨x, rfl⟩ := Wb.nextd b | obtain ⟨x, rfl⟩ := Wb.next b); clear b))
      refine hK.out _ _ (by first | exact KS.out _ ⟨_, rfl⟩ | exact KS.out _ (Wb.next ((Below.refl _ _).drew))) (fun hHeld => ?_)
      clear hK K
      (try simp only [Act.put, List.getElem_toArray, List.getElem_cons_zero, List.getElem_cons_succ, List.setIfInBounds_toArray, List.set_cons_zero, List.set_cons_succ])
      refine wpAnyH_ready (rs := [30]) (by kernel_rfl) (by simp) ?_
      refine AllReadyH.cons rfl (fun K hK => ?_) AllReadyH.nil
      go_simp
      (first | (go_at_call 11; refine (AD1.out _).mono ?_; rintro e w1 ⟨v1, rfl, hv, b⟩; (first | obtain ⟨x, rfl⟩ := Wb.nextd b | obtain ⟨x, rfl⟩ := Wb.next b); have HV1 := Lib.hid hv; clear hv b) | (go_at_call 12; refine (AD2.out _).mono ?_; rintro e w1 ⟨v2, rfl, hv, b⟩; have HV1 := Lib.hid (HV1.out.keep b); (first | obtain ⟨x, rfl⟩ := Wb.nextd b | obtain ⟨x, rfl⟩ := Wb.next b); have HV2 := Lib.hid hv; clear hv b) | (go_at_call 13; refine (DA1.out _).mono ?_; rintro e w1 ⟨v1, rfl, hv, b⟩; (first | obtain ⟨x, rfl⟩ := Wb.nextd b | obtain ⟨x, rfl⟩ := Wb.next b); have HV1 := Lib.hid hv; clear hv b) | (go_at_call 14; refine (DA2.out _).mono ?_; rintro e w1 ⟨v2, rfl, hv, b⟩; have HV1 := Lib.hid (HV1.out.keep b); (first | obtain ⟨x, rfl⟩ := Wb.nextd b | obtain ⟨x, rfl⟩ := Wb.next b); have HV2 := Lib.hid hv; clear hv b) | (go_at_call 15; refine (SE1.out _).mono ?_; rintro e w1 ⟨v1, rfl, hv, b⟩; (first | obtain ⟨x, rfl⟩ := Wb.nextd b | obtain ⟨x, rfl⟩ := Wb.next b); have HV1 := Lib.hid hv; clear hv b) | (go_at_call 16; refine (SE2.out _).mono ?_; rintro e w1 ⟨v2, rfl, hv, b⟩; have HV1 := Lib.hid (HV1.out.keep b); (first | obtain ⟨x, rfl⟩ := Wb.nextd b | obtain ⟨x, rfl⟩ := Wb.next b); have HV2 := Lib.hid hv; clear hv b) | (go_at_call 10; first | (refine (same_true A1 _ _ _ LA.out.1 HV1.out HV2.out).mono ?_; rintro e w1 ⟨rfl, b⟩; (first | obtain ⟨x, rfl⟩ := Wb.nextd b | obtain ⟨x, rfl⟩ := Wb.next b); clear b HV1 HV2) | (refine (same_true A2 _ _ _ LA.out.2.1 HV1.out HV2.out).mono ?_; rintro e w1 ⟨rfl, b⟩; (first | obtain ⟨x, rfl⟩ := Wb.nextd b | obtain ⟨x, rfl⟩ := Wb.next b); clear b HV1 HV2) | (refine (same_true A3 _ _ _ LA.out.2.2 HV1.out HV2.out).mono ?_; rintro e w1 ⟨rfl, b⟩; (first | obtain ⟨x, rfl⟩ := Wb.nextd b | obtain ⟨x, rfl⟩ := Wb.next b); clear b HV1 HV2)) | (go_at_call 17; refine (LO.out _).mono ?_; rintro e w1 ⟨rfl, b⟩; (first | obtain ⟨x, rfl⟩ := Wb.nextd b | obtain ⟨x, rfl⟩ := Wb.next b); clear b) | (go_at_call 18; refine (PLO.out _).mono ?_; rintro e w1 ⟨rfl, b⟩; (first | obtain ⟨x, rfl⟩ := Wb.nextd b | obtain ⟨x, rfl⟩ := Wb.next b); clear b) | (go_at_call 19; refine (ST.out _).mono ?_; rintro e w1 ⟨rfl, b⟩; (first | obtain ⟨x, rfl⟩ := Wb.nextd b | obtain ⟨x, rfl⟩ := Wb.next b); clear b) | (go_at_call 20; refine (PST.out _).mono ?_; rintro e w1 ⟨rfl, b⟩; (first | obtain ⟨x, rfl⟩ := Wb.nextd b | obtain ⟨x, rfl⟩ := Wb.next b); clear b) | (go_at_call 21; refine (AC.out _).mono ?_; rintro e w1 ⟨rfl, b⟩; (first | obtain ⟨x, rfl⟩ := Wb.nextd b | obtain ⟨x, rfl⟩ := Wb.next b); clear b) | (go_at_call 22; refine (BR.out _).mono ?_; rintro e w1 ⟨rfl, b⟩; (first | obtain ⟨x, rfl⟩ := Wb.nextd b | obtain ⟨x, rfl⟩ := Wb.next b); clear b) | (go_at_call 23; refine (PBR.out _).mono ?_; rintro e w1 ⟨rfl, b⟩; (first | obtain ⟨x, rfl⟩ := Wb.nextd b | obtain ⟨x, rfl⟩ := Wb.next b); clear b))
      refine hK.out _ _ (by first | exact KS.out _ ⟨_, rfl⟩ | exact KS.out _ (Wb.next ((Below.refl _ _).drew))) (fun hHeld => ?_)
      clear hK K
      (try simp only [Act.put, List.getElem_toArray, List.getElem_cons_zero, List.getElem_cons_succ, List.setIfInBounds_toArray, List.set_cons_zero, List.set_cons_succ])
      refine wpAnyH_take (i := 31) (v := ?_) rfl (by kernel_rfl) (by kernel_rfl) (by kernel_rfl) (fun _ _ _ h => h) (Or.inl ⟨by rfl, ?_⟩) (by assumption) ?_
      rotate_left 1
      · (intro w hSw; (try dsimp only at hSw); go_simp; try with_reducible rfl)
      (try simp only [Act.put, List.getElem_toArray, List.getElem_cons_zero, List.getElem_cons_succ, List.setIfInBounds_toArray, List.set_cons_zero, List.set_cons_succ])
      refine wpAnyH_take (i := 32) (v := ?_) rfl (by kernel_rfl) (by kernel_rfl) (by kernel_rfl) (fun _ _ _ h => h) (Or.inl ⟨by rfl, ?_⟩) (by assumption) ?_
      rotate_left 1
      · (intro w hSw; (try dsimp only at hSw); go_simp; try with_reducible rfl)
      (try simp only [Act.put, List.getElem_toArray, List.getElem_cons_zero, List.getElem_cons_succ, List.setIfInBounds_toArray, List.set_cons_zero, List.set_cons_succ])
      refine wpAnyH_take (i := 33) (v := ?_) rfl (by kernel_rfl) (by kernel_rfl) (by kernel_rfl) (fun _ _ _ h => h) (Or.inl ⟨by rfl, ?_⟩) (by assumption) ?_
      rotate_left 1
      · (intro w hSw; (try dsimp only at hSw); go_simp; try with_reducible rfl)
      (try simp only [Act.put, List.getElem_toArray, List.getElem_cons_zero, List.getElem_cons_succ, List.setIfInBounds_toArray, List.set_cons_zero, List.set_cons_succ])
      refine wpAnyH_take (i := 34) (v := ?_) rfl (by kernel_rfl) (by kernel_rfl) (by kernel_rfl) (fun _ _ _ h => h) (Or.inl ⟨by rfl, ?_⟩) (by assumption) ?_
      rotate_left 1
      · (intro w hSw; (try dsimp only at hSw); go_simp; try with_reducible rfl)
      (try simp only [Act.put, List.getElem_toArray, List.getElem_cons_zero, List.getElem_cons_succ, List.setIfInBounds_toArray, List.set_cons_zero, List.set_cons_succ])
      refine wpAnyH_take (i := 36) (v := ?_) rfl (by kernel_rfl) (by kernel_rfl) (by kernel_rfl) (fun _ _ _ h => h) (Or.inl ⟨by rfl, ?_⟩) (by assumption) ?_
      rotate_left 1
      · (intro w hSw; (try dsimp only at hSw); go_simp; try with_reducible rfl)
      (try simp only [Act.put, List.getElem_toArray, List.getElem_cons_zero, List.getElem_cons_succ, List.setIfInBounds_toArray, List.set_cons_zero, List.set_cons_succ])
      refine wpAnyH_ready (rs := [35]) (by kernel_rfl) (by simp) ?_
      refine AllReadyH.cons rfl (fun K hK => ?_) AllReadyH.nil
      go_simp
      (first | (go_at_call 11; refine (AD1.out _).mono ?_; rintro e w1 ⟨v1, rfl, hv, b⟩; (first | obtain ⟨x, rfl⟩ := Wb.nextd b | obtain ⟨x, rfl⟩ := Wb.next b); have HV1 := Lib.hid hv; clear hv b) | (go_at_call 12; refine (AD2.out _).mono ?_; rintro e w1 ⟨v2, rfl, hv, b⟩; have HV1 := Lib.hid (HV1.out.keep b); (first | obtain ⟨x, rfl⟩ := Wb.nextd b | obtain ⟨x, rfl⟩ := Wb.next b); have HV2 := Lib.hid hv; clear hv b) | (go_at_call 13; refine (DA1.out _).mono ?_; rintro e w1 ⟨v1, rfl, hv, b⟩; (first | obtain ⟨x, rfl⟩ := Wb.nextd b | obtain ⟨x, rfl⟩ := Wb.next b); have HV1 := Lib.hid hv; clear hv b) | (go_at_call 14; refine (DA2.out _).mono ?_; rintro e w1 ⟨v2, rfl, hv, b⟩; have HV1 := Lib.hid (HV1.out.keep b); (first | obtain ⟨x, rfl⟩ := Wb.nextd b | obtain ⟨x, rfl⟩ := Wb.next b); have HV2 := Lib.hid hv; clear hv b) | (go_at_call 15; refine (SE1.out _).mono ?_; rintro e w1 ⟨v1, rfl, hv, b⟩; (first | obtain ⟨x, rfl⟩ := Wb.nextd b | obtain ⟨x, rfl⟩ := Wb.next b); have HV1 := Lib.hid hv; clear hv b) | (go_at_call 16; refine (SE2.out _).mono ?_; rintro e w1 ⟨v2, rfl, hv, b⟩; have HV1 := Lib.hid (HV1.out.keep b); (first | obtain ⟨x, rfl⟩ := Wb.nextd b | obtain ⟨x, rfl⟩ := Wb.next b); have HV2 := Lib.hid hv; clear hv b) | (go_at_call 10; first | (refine (same_true A1 _ _ _ LA.out.1 HV1.out HV2.out).mono ?_; rintro e w1 ⟨rfl, b⟩; (first | obtain ⟨x, rfl⟩ := Wb.nextd b | obtain ⟨x, rfl⟩ := Wb.next b); clear b HV1 HV2) | (refine (same_true A2 _ _ _ LA.out.2.1 HV1.out HV2.out).mono ?_; rintro e w1 ⟨rfl, b⟩; (first | obtain ⟨x, rfl⟩ := Wb.nextd b | obtain ⟨x, rfl⟩ := Wb.next b); clear b HV1 HV2) | (refine (same_true A3 _ _ _ LA.out.2.2 HV1.out HV2.out).mono ?_; rintro e w1 ⟨rfl, b⟩; (first | obtain ⟨x, rfl⟩ := Wb.nextd b | obtain ⟨x, rfl⟩ := Wb.next b); clear b HV1 HV2)) | (go_at_call 17; refine (LO.out _).mono ?_; rintro e w1 ⟨rfl, b⟩; (first | obtain ⟨x, rfl⟩ := Wb.nextd b | obtain ⟨x, rfl⟩ := Wb.next b); clear b) | (go_at_call 18; refine (PLO.out _).mono ?_; rintro e w1 ⟨rfl, b⟩; (first | obtain ⟨x, rfl⟩ := Wb.nextd b | obtain ⟨x, rfl⟩ := Wb.next b); clear b) | (go_at_call 19; refine (ST.out _).mono ?_; rintro e w1 ⟨rfl, b⟩; (first | obtain ⟨x, rfl⟩ := Wb.nextd b | obtain ⟨x, rfl⟩ := Wb.next b); clear b) | (go_at_call 20; refine (PST.out _).mono ?_; rintro e w1 ⟨rfl, b⟩; (first | obtain ⟨x, rfl⟩ := Wb.nextd b | obtain ⟨x, rfl⟩ := Wb.next b); clear b) | (go_at_call 21; refine (AC.out _).mono ?_; rintro e w1 ⟨rfl, b⟩; (first | obtain ⟨x, rfl⟩ := Wb.nextd b | obtain ⟨x, rfl⟩ := Wb.next b); clear b) | (go_at_call 22; refine (BR.out _).mono ?_; rintro e w1 ⟨rfl, b⟩; (first | obtain ⟨x, rfl⟩ := Wb.nextd b | obtain ⟨x, rfl⟩ := Wb.next b); clear b) | (go_at_call 23; refine (PBR.out _).mono ?_; rintro e w1 ⟨rfl, b⟩; (first | obtain ⟨x, rfl⟩ := Wb.nextd b | obtain ⟨x, rfl⟩ := Wb.next b); clear b))
      refine hK.out _ _ (by first | exact KS.out _ ⟨_, rfl⟩ | exact KS.out _ (Wb.next ((Below.refl _ _).drew))) (fun hHeld => ?_)
      clear hK K
      (try simp only [Act.put, List.getElem_toArray, List.getElem_cons_zero, List.getElem_cons_succ, List.setIfInBounds_toArray, List.set_cons_zero, List.set_cons_succ])
      refine wpAnyH_ready (rs := [37]) (by kernel_rfl) (by simp) ?_
      refine AllReadyH.cons rfl (fun K hK => ?_) AllReadyH.nil
      go_simp
      (first | (go_at_call 11; refine (AD1.out _).mono ?_; rintro e w1 ⟨v1, rfl, hv, b⟩; (first | obtain ⟨x, rfl⟩ := Wb.nextd b | obtain ⟨x, rfl⟩ := Wb.next b); have HV1 := Lib.hid hv; clear hv b) | (go_at_call 12; refine (AD2.out _).mono ?_; rintro e w1 ⟨v2, rfl, hv, b⟩; have HV1 := Lib.hid (HV1.out.keep b); (first | obtain ⟨x, rfl⟩ := Wb.nextd b | obtain ⟨x, rfl⟩ := Wb.next b); have HV2 := Lib.hid hv; clear hv b) | (go_at_call 13; refine (DA1.out _).mono ?_; rintro e w1 ⟨v1, rfl, hv, b⟩; (first | obtain ⟨x, rfl⟩ := Wb.nextd b | obtain ⟨x, rfl⟩ := Wb.next b); have HV1 := Lib.hid hv; clear hv b) | (go_at_call 14; refine (DA2.out _).mono ?_; rintro e w1 ⟨v2, rfl, hv, b⟩; have HV1 := Lib.hid (HV1.out.keep b); (first | obtain ⟨x, rfl⟩ := Wb.nextd b | obtain ⟨x, rfl⟩ := Wb.next b); have HV2 := Lib.hid hv; clear hv b) | (go_at_call 15; refine (SE1.out _).mono ?_; rintro e w1 ⟨v1, rfl, hv, b⟩; (first | obtain ⟨x, rfl⟩ := Wb.nextd b | obtain ⟨x, rfl⟩ := Wb.next b); have HV1 := Lib.hid hv; clear hv b) | (go_at_call 16; refine (SE2.out _).mono ?_; rintro e w1 ⟨v2, rfl, hv, b⟩; have HV1 := Lib.hid (HV1.out.keep b); (first | obtain ⟨x, rfl⟩ := Wb.nextd b | obtain ⟨x, rfl⟩ := Wb.next b); have HV2 := Lib.hid hv; clear hv b) | (go_at_call 10; first | (refine (same_true A1 _ _ _ LA.out.1 HV1.out HV2.out).mono ?_; rintro e w1 ⟨rfl, b⟩; (first | obtain ⟨x, rfl⟩ := Wb.nextd b | obtain ⟨x, rfl⟩ := Wb.next b); clear b HV1 HV2) | (refine (same_true A2 _ _ _ LA.out.2.1 HV1.out HV2.out).mono ?_; rintro e w1 ⟨rfl, b⟩; (first | obtain ⟨x, rfl⟩ := Wb.nextd b | obtain ⟨x, rfl⟩ := Wb.next b); clear b HV1 HV2) | (refine (same_true A3 _ _ _ LA.out.2.2 HV1.out HV2.out).mono ?_; rintro e w1 ⟨rfl, b⟩; (first | obtain ⟨x, rfl⟩ := Wb.nextd b | obtain ⟨x, rfl⟩ := Wb.next b); clear b HV1 HV2)) | (go_at_call 17; refine (LO.out _).mono ?_; rintro e w1 ⟨rfl, b⟩; (first | obtain ⟨x, rfl⟩ := Wb.nextd b | obtain ⟨x, rfl⟩ := Wb.next b); clear b) | (go_at_call 18; refine (PLO.out _).mono ?_; rintro e w1 ⟨rfl, b⟩; (first | obtain ⟨x, rfl⟩ := Wb.nextd b | obtain ⟨x, rfl⟩ := Wb.next b); clear b) | (go_at_call 19; refine (ST.out _).mono ?_; rintro e w1 ⟨rfl, b⟩; (first | obtain ⟨x, rfl⟩ := Wb.nextd b | obtain ⟨x, rfl⟩ := Wb.next b); clear b) | (go_at_call 20; refine (PST.out _).mono ?_; rintro e w1 ⟨rfl, b⟩; (first | obtain ⟨x, rfl⟩ := Wb.nextd b | obtain ⟨x, rfl⟩ := Wb.next b); clear b) | (go_at_call 21; refine (AC.out _).mono ?_; rintro e w1 ⟨rfl, b⟩; (first | obtain ⟨x, rfl⟩ := Wb.nextd b | obtain ⟨x, rfl⟩ := Wb.next b); clear b) | (go_at_call 22; refine (BR.out _).mono ?_; rintro e w1 ⟨rfl, b⟩; (first | obtain ⟨x, rfl⟩ := Wb.nextd b | obtain ⟨x, rfl⟩ := Wb.next b); clear b) | (go_at_call 23; refine (PBR.out _).mono ?_; rintro e w1 ⟨rfl, b⟩; (first | obtain ⟨x, rfl⟩ := Wb.nextd b | obtain ⟨x, rfl⟩ := Wb.next b); clear b))
      refine hK.out _ _ (by first | exact KS.out _ ⟨_, rfl⟩ | exact KS.out _ (Wb.next ((Below.refl _ _).drew))) (fun hHeld => ?_)
      clear hK K
      (try simp only [Act.put, List.getElem_toArray, List.getElem_cons_zero, List.getElem_cons_succ, List.setIfInBounds_toArray, List.set_cons_zero, List.set_cons_succ])
      refine wpAnyH_take (i := 38) (v := ?_) rfl (by kernel_rfl) (by kernel_rfl) (by kernel_rfl) (fun _ _ _ h => h) (Or.inl ⟨by rfl, ?_⟩) (by assumption) ?_
      rotate_left 1
      · (intro w hSw; (try dsimp only at hSw); go_simp; try with_reducible rfl)
      (try simp only [Act.put, List.getElem_toArray, List.getElem_cons_zero, List.getElem_cons_succ, List.setIfInBounds_toArray, List.set_cons_zero, List.set_cons_succ])
      refine wpAnyH_take (i := 39) (v := undef) rfl (by kernel_rfl) (by kernel_rfl) (by kernel_rfl) (fun _ _ _ h => h) (Or.inr ⟨by rfl, rfl⟩) (by assumption) ?_
      (try simp only [Act.put, List.getElem_toArray, List.getElem_cons_zero, List.getElem_cons_succ, List.setIfInBounds_toArray, List.set_cons_zero, List.set_cons_succ])
      refine wpAnyH_take (i := 40) (v := undef) rfl (by kernel_rfl) (by kernel_rfl) (by kernel_rfl) (fun _ _ _ h => h) (Or.inr ⟨by rfl, rfl⟩) (by assumption) ?_
      (try simp only [Act.put, List.getElem_toArray, List.getElem_cons_zero, List.getElem_cons_succ, List.setIfInBounds_toArray, List.set_cons_zero, List.set_cons_succ])
      refine wpAnyH_take (i := 41) (v := ?_) rfl (by kernel_rfl) (by kernel_rfl) (by kernel_rfl) (fun _ _ _ h => h) (Or.inl ⟨by rfl, ?_⟩) (by assumption) ?_
      rotate_left 1
      · (intro w hSw; (try dsimp only at hSw); go_simp; try with_reducible rfl)
      (try simp only [Act.put, List.getElem_toArray, List.getElem_cons_zero, List.getElem_cons_succ, List.setIfInBounds_toArray, List.set_cons_zero, List.set_cons_succ])
      refine wpAnyH_take (i := 42) (v := ?_) rfl (by kernel_rfl) (by kernel_rfl) (by kernel_rfl) (fun _ _ _ h => h) (Or.inl ⟨by rfl, ?_⟩) (by assumption) ?_
      rotate_left 1
      · (intro w hSw; (try dsimp only at hSw); go_simp; try with_reducible rfl)
      (try simp only [Act.put, List.getElem_toArray, List.getElem_cons_zero, List.getElem_cons_succ, List.setIfInBounds_toArray, List.set_cons_zero, List.set_cons_succ])
      refine wpAnyH_take (i := 43) (v := ?_) rfl (by kernel_rfl) (by kernel_rfl) (by kernel_rfl) (fun _ _ _ h => h) (Or.inl ⟨by rfl, ?_⟩) (by assumption) ?_
      rotate_left 1
      · (intro w hSw; (try dsimp only at hSw); go_simp; try with_reducible rfl)
      (try simp only [Act.put, List.getElem_toArray, List.getElem_cons_zero, List.getElem_cons_succ, List.setIfInBounds_toArray, List.set_cons_zero, List.set_cons_succ])
      refine wpAnyH_take (i := 44) (v := ?_) rfl (by kernel_rfl) (by kernel_rfl) (by kernel_rfl) (fun _ _ _ h => h) (Or.inl ⟨by rfl, ?_⟩) (by assumption) ?_
      rotate_left 1
      · (intro w hSw; (try dsimp only at hSw); go_simp; try with_reducible rfl)
      (try simp only [Act.put, List.getElem_toArray, List.getElem_cons_zero, List.getElem_cons_succ, List.setIfInBounds_toArray, List.set_cons_zero, List.set_cons_succ])
      refine wpAnyH_take (i := 45) (v := ?_) rfl (by kernel_rfl) (by kernel_rfl) (by kernel_rfl) (fun _ _ _ h => h) (Or.inl ⟨by rfl, ?_⟩) (by assumption) ?_
      rotate_left 1
      · (intro w hSw; (try dsimp only at hSw); go_simp; try with_reducible rfl)
      (try simp only [Act.put, List.getElem_toArray, List.getElem_cons_zero, List.getElem_cons_succ, List.setIfInBounds_toArray, List.set_cons_zero, List.set_cons_succ])
      refine wpAnyH_take (i := 47) (v := ?_) rfl (by kernel_rfl) (by kernel_rfl) (by kernel_rfl) (fun _ _ _ h => h) (Or.inl ⟨by rfl, ?_⟩) (by assumption) ?_
      rotate_left 1
      · (intro w hSw; (try dsimp only at hSw); go_simp; try with_reducible rfl)
      (try simp only [Act.put, List.getElem_toArray, List.getElem_cons_zero, List.getElem_cons_succ, List.setIfInBounds_toArray, List.set_cons_zero, List.set_cons_succ])
      refine wpAnyH_ready (rs := [46]) (by kernel_rfl) (by simp) ?_
      refine AllReadyH.cons rfl (fun K hK => ?_) AllReadyH.nil
      go_simp
      (first | (go_at_call 11; refine (AD1.out _).mono ?_; rintro e w1 ⟨v1, rfl, hv, b⟩; (first | obtain ⟨x, rfl⟩ := Wb.nextd b | obtain ⟨x, rfl⟩ := Wb.next b); have HV1 := Lib.hid hv; clear hv b) | (go_at_call 12; refine (AD2.out _).mono ?_; rintro e w1 ⟨v2, rfl, hv, b⟩; have HV1 := Lib.hid (HV1.out.keep b); (first | obtain ⟨x, rfl⟩ := Wb.nextd b | obtain ⟨x, rfl⟩ := Wb.next b); have HV2 := Lib.hid hv; clear hv b) | (go_at_call 13; refine (DA1.out _).mono ?_; rintro e w1 ⟨v1, rfl, hv, b⟩; (first | obtain ⟨x, rfl⟩ := Wb.nextd b | obtain ⟨x, rfl⟩ := Wb.next b); have HV1 := Lib.hid hv; clear hv b) | (go_at_call 14; refine (DA2.out _).mono ?_; rintro e w1 ⟨v2, rfl, hv, b⟩; have HV1 := Lib.hid (HV1.out.keep b); (first | obtain ⟨x, rfl⟩ := Wb.nextd b | obtain ⟨x, rfl⟩ := Wb.next b); have HV2 := Lib.hid hv; clear hv b) | (go_at_call 15; refine (SE1.out _).mono ?_; rintro e w1 ⟨v1, rfl, hv, b⟩; (first | obtain ⟨x, rfl⟩ := Wb.nextd b | obtain ⟨x, rfl⟩ := Wb.next b); have HV1 := Lib.hid hv; clear hv b) | (go_at_call 16; refine (SE2.out _).mono ?_; rintro e w1 ⟨v2, rfl, hv, b⟩; have HV1 := Lib.hid (HV1.out.keep b); (first | obtain ⟨x, rfl⟩ := Wb.nextd b | obtain ⟨x, rfl⟩ := Wb.next b); have HV2 := Lib.hid hv; clear hv b) | (go_at_call 10; first | (refine (same_true A1 _ _ _ LA.out.1 HV1.out HV2.out).mono ?_; rintro e w1 ⟨rfl, b⟩; (first | obtain ⟨x, rfl⟩ := Wb.nextd b | obtain ⟨x, rfl⟩ := Wb.next b); clear b HV1 HV2) | (refine (same_true A2 _ _ _ LA.out.2.1 HV1.out HV2.out).mono ?_; rintro e w1 ⟨rfl, b⟩; (first | obtain ⟨x, rfl⟩ := Wb.nextd b | obtain ⟨x, rfl⟩ := Wb.next b); clear b HV1 HV2) | (refine (same_true A3 _ _ _ LA.out.2.2 HV1.out HV2.out).mono ?_; rintro e w1 ⟨rfl, b⟩; (first | obtain ⟨x, rfl⟩ := Wb.nextd b | obtain ⟨x, rfl⟩ := Wb.next b); clear b HV1 HV2)) | (go_at_call 17; refine (LO.out _).mono ?_; rintro e w1 ⟨rfl, b⟩; (first | obtain ⟨x, rfl⟩ := Wb.nextd b | obtain ⟨x, rfl⟩ := Wb.next b); clear b) | (go_at_call 18; refine (PLO.out _).mono ?_; rintro e w1 ⟨rfl, b⟩; (first | obtain ⟨x, rfl⟩ := Wb.nextd b | obtain ⟨x, rfl⟩ := Wb.next b); clear b) | (go_at_call 19; refine (ST.out _).mono ?_; rintro e w1 ⟨rfl, b⟩; (first | obtain ⟨x, rfl⟩ := Wb.nextd b | obtain ⟨x, rfl⟩ := Wb.next b); clear b) | (go_at_call 20; refine (PST.out _).mono ?_; rintro e w1 ⟨rfl, b⟩; (first | obtain ⟨x, rfl⟩ := Wb.nextd b | obtain ⟨x, rfl⟩ := Wb.next b); clear b) | (go_at_call 21; refine (AC.out _).mono ?_; rintro e w1 ⟨rfl, b⟩; (first | obtain ⟨x, rfl⟩ := Wb.nextd b | obtain ⟨x, rfl⟩ := Wb.next b); clear b) | (go_at_call 22; refine (BR.out _).mono ?_; rintro e w1 ⟨rfl, b⟩; (first | obtain ⟨x, rfl⟩ := Wb.nextd b | obtain ⟨x, rfl⟩ := Wb.next b); clear b) | (go_at_call 23; refine (PBR.out _).mono ?_; rintro e w1 ⟨rfl, b⟩; (first | obtain ⟨x, rfl⟩ := Wb.nextd b | obtain ⟨x, rfl⟩ := Wb.next b); clear b))
      refine hK.out _ _ (by first | exact KS.out _ ⟨_, rfl⟩ | exact KS.out _ (Wb.next ((Below.refl _ _).drew))) (fun hHeld => ?_)
      clear hK K
      (try simp only [Act.put, List.getElem_toArray, List.getElem_cons_zero, List.getElem_cons_succ, List.setIfInBounds_toArray, List.set_cons_zero, List.set_cons_succ])
      refine wpAnyH_ready (rs := [48]) (by kernel_rfl) (by simp) ?_
      refine AllReadyH.cons rfl (fun K hK => ?_) AllReadyH.nil
      go_simp
      (first | (go_at_call 11; refine (AD1.out _).mono ?_; rintro e w1 ⟨v1, rfl, hv, b⟩; (first | obtain ⟨x, rfl⟩ := Wb.nextd b | obtain ⟨x, rfl⟩ := Wb.next b); have HV1 := Lib.hid hv; clear hv b) | (go_at_call 12; refine (AD2.out _).mono ?_; rintro e w1 ⟨v2, rfl, hv, b⟩; have HV1 := Lib.hid (HV1.out.keep b); (first | obtain ⟨x, rfl⟩ := Wb.nextd b | obtain ⟨x, rfl⟩ := Wb.next b); have HV2 := Lib.hid hv; clear hv b) | (go_at_call 13; refine (DA1.out _).mono ?_; rintro e w1 ⟨v1, rfl, hv, b⟩; (first | obtain ⟨x, rfl⟩ := Wb.nextd b | obtain ⟨x, rfl⟩ := Wb.next b); have HV1 := Lib.hid hv; clear hv b) | (go_at_call 14; refine (DA2.out _).mono ?_; rintro e w1 ⟨v2, rfl, hv, b⟩; have HV1 := Lib.hid (HV1.out.keep b); (first | obtain ⟨x, rfl⟩ := Wb.nextd b | obtain ⟨x, rfl⟩ := Wb.next b); have HV2 := Lib.hid hv; clear hv b) | (go_at_call 15; refine (SE1.out _).mono ?_; rintro e w1 ⟨v1, rfl, hv, b⟩; (first | obtain ⟨x, rfl⟩ := Wb.nextd b | obtain ⟨x, rfl⟩ := Wb.next b); have HV1 := Lib.hid hv; clear hv b) | (go_at_call 16; refine (SE2.out _).mono ?_; rintro e w1 ⟨v2, rfl, hv, b⟩; have HV1 := Lib.hid (HV1.out.keep b); (first | obtain ⟨x, rfl⟩ := Wb.nextd b | obtain ⟨x, rfl⟩ := Wb.next b); have HV2 := Lib.hid hv; clear hv b) | (go_at_call 10; first | (refine (same_true A1 _ _ _ LA.out.1 HV1.out HV2.out).mono ?_; rintro e w1 ⟨rfl, b⟩; (first | obtain ⟨x, rfl⟩ := Wb.nextd b | obtain ⟨x, rfl⟩ := Wb.next b); clear b HV1 HV2) | (refine (same_true A2 _ _ _ LA.out.2.1 HV1.out HV2.out).mono ?_; rintro e w1 ⟨rfl, b⟩; (first | obtain ⟨x, rfl⟩ := Wb.nextd b | obtain ⟨x, rfl⟩ := Wb.next b); clear b HV1 HV2) | (refine (same_true A3 _ _ _ LA.out.2.2 HV1.out HV2.out).mono ?_; rintro e w1 ⟨rfl, b⟩; (first | obtain ⟨x, rfl⟩ := Wb.nextd b | obtain ⟨x, rfl⟩ := Wb.next b); clear b HV1 HV2)) | (go_at_call 17; refine (LO.out _).mono ?_; rintro e w1 ⟨rfl, b⟩; (first | obtain ⟨x, rfl⟩ := Wb.nextd b | obtain ⟨x, rfl⟩ := Wb.next b); clear b) | (go_at_call 18; refine (PLO.out _).mono ?_; rintro e w1 ⟨rfl, b⟩; (first | obtain ⟨x, rfl⟩ := Wb.nextd b | obtain ⟨x, rfl⟩ := Wb.next b); clear b) | (go_at_call 19; refine (ST.out _).mono ?_; rintro e w1 ⟨rfl, b⟩; (first | obtain ⟨x, rfl⟩ := Wb.nextd b | obtain ⟨x, rfl⟩ := Wb.next b); clear b) | (go_at_call 20; refine (PST.out _).mono ?_; rintro e w1 ⟨rfl, b⟩; (first | obtain ⟨x, rfl⟩ := Wb.nextd b | obtain ⟨x, rfl⟩ := Wb.next b); clear b) | (go_at_call 21; refine (AC.out _).mono ?_; rintro e w1 ⟨rfl, b⟩; (first | obtain ⟨x, rfl⟩ := Wb.nextd b | obtain ⟨x, rfl⟩ := Wb.next b); clear b) | (go_at_call 22; refine (BR.out _).mono ?_; rintro e w1 ⟨rfl, b⟩; (first | obtain ⟨x, rfl⟩ := Wb.nextd b | obtain ⟨x, rfl⟩ := Wb.next b); clear b) | (go_at_call 23; refine (PBR.out _).mono ?_; rintro e w1 ⟨rfl, b⟩; (first | obtain ⟨x, rfl⟩ := Wb.nextd b | obtain ⟨x, rfl⟩ := Wb.next b); clear b))
      refine hK.out _ _ (by first | exact KS.out _ ⟨_, rfl⟩ | exact KS.out _ (Wb.next ((Below.refl _ _).drew))) (fun hHeld => ?_)
      clear hK K
      (try simp only [Act.put, List.getElem_toArray, List.getElem_cons_zero, List.getElem_cons_succ, List.setIfInBounds_toArray, List.set_cons_zero, List.set_cons_succ])
      refine wpAnyH_take (i := 49) (v := ?_) rfl (by kernel_rfl) (by kernel_rfl) (by kernel_rfl) (fun _ _ _ h => h) (Or.inl ⟨by rfl, ?_⟩) (by assumption) ?_
      rotate_left 1
      · (intro w hSw; (try dsimp only at hSw); go_simp; try with_reducible rfl)
      (try simp only [Act.put, List.getElem_toArray, List.getElem_cons_zero, List.getElem_cons_succ, List.setIfInBounds_toArray, List.set_cons_zero, List.set_cons_succ])
      refine wpAnyH_take (i := 50) (v := ?_) rfl (by kernel_rfl) (by kernel_rfl) (by kernel_rfl) (fun _ _ _ h => h) (Or.inl ⟨by rfl, ?_⟩) (by assumption) ?_
      rotate_left 1
      · (intro w hSw; (try dsimp only at hSw); go_simp; try with_reducible rfl)
      (try simp only [Act.put, List.getElem_toArray, List.getElem_cons_zero, List.getElem_cons_succ, List.setIfInBounds_toArray, List.set_cons_zero, List.set_cons_succ])
      refine wpAnyH_take (i := 51) (v := ?_) rfl (by kernel_rfl) (by kernel_rfl) (by kernel_rfl) (fun _ _ _ h => h) (Or.inl ⟨by rfl, ?_⟩) (by assumption) ?_
      rotate_left 1
      · (intro w hSw; (try dsimp only at hSw); go_simp; try with_reducible rfl)
      (try simp only [Act.put, List.getElem_toArray, List.getElem_cons_zero, List.getElem_cons_succ, List.setIfInBounds_toArray, List.set_cons_zero, List.set_cons_succ])
      refine wpAnyH_done (by kernel_rfl) ?_ _
      refine NoPanic.normal ?_
      go_wp2
      go_ret
      exact ⟨rfl, KB.out _⟩
    | false =>
      simp only [c, Bool.false_or] at LO PLO AC
      go_enter Try.func3, Try.ntmps3
      go_upto_region 1 with fail
      obtain ⟨x0, hx0⟩ : ∃ x : Wb (w.alloc (.cells #[.int .i64 op, .int .i64 d, .int .i64 n, .int .i64 m, .int .i64 imm, .int .i64 kind] 23)), w.alloc (.cells #[.int .i64 op, .int .i64 d, .int .i64 n, .int .i64 m, .int .i64 imm, .int .i64 kind] 23) = x.at := ⟨⟨_, Below.refl _ _⟩, rfl⟩
      rw [hx0]
      clear hx0
      go_wp2_with fail
      refine (gawake_any _).mono ?_
      rintro e w1 ⟨rfl, b⟩
      obtain ⟨x1, rfl⟩ := Wb.next b
      clear b
      go_wp2_with fail
      refine (PR0.out _).mono ?_
      rintro e w1 ⟨rfl, b⟩
      obtain ⟨x2, rfl⟩ := Wb.next b
      clear b
      go_wp2_with fail
      have KS := Lib.hid (show ∀ w1, (∃ x : Wb (w.alloc (.cells #[.int .i64 op, .int .i64 d, .int .i64 n, .int .i64 m, .int .i64 imm, .int .i64 kind] 23)), w1 = x.at) → w1.cell? ⟨w.heap.size, 0, none⟩ = some (.int .i64 op) ∧ w1.cell? ⟨w.heap.size, 1, none⟩ = some (.int .i64 d) ∧ w1.cell? ⟨w.heap.size, 2, none⟩ = some (.int .i64 n) ∧ w1.cell? ⟨w.heap.size, 3, none⟩ = some (.int .i64 m) ∧ w1.cell? ⟨w.heap.size, 4, none⟩ = some (.int .i64 imm) ∧ w1.cell? ⟨w.heap.size, 5, none⟩ = some (.int .i64 kind) from fun w1 hx => by obtain ⟨x, rfl⟩ := hx; exact ⟨a0 x, a1 x, a2 x, a3 x, a4 x, a5 x⟩)
      first | (go_region_held3 (fun w1 => w1.cell? ⟨w.heap.size, 0, none⟩ = some (.int .i64 op) ∧ w1.cell? ⟨w.heap.size, 1, none⟩ = some (.int .i64 d) ∧ w1.cell? ⟨w.heap.size, 2, none⟩ = some (.int .i64 n) ∧ w1.cell? ⟨w.heap.size, 3, none⟩ = some (.int .i64 m) ∧ w1.cell? ⟨w.heap.size, 4, none⟩ = some (.int .i64 imm) ∧ w1.cell? ⟨w.heap.size, 5, none⟩ = some (.int .i64 kind)) (first | exact KS.out _ ⟨_, rfl⟩ | exact KS.out _ (Wb.next ((Below.refl _ _).drew))) (first | (go_at_call 11; refine (AD1.out _).mono ?_; rintro e w1 ⟨v1, rfl, hv, b⟩; (first | obtain ⟨x, rfl⟩ := Wb.nextd b | obtain ⟨x, rfl⟩ := Wb.next b); have HV1 := Lib.hid hv; clear hv b) | (go_at_call 12; refine (AD2.out _).mono ?_; rintro e w1 ⟨v2, rfl, hv, b⟩; have HV1 := Lib.hid (HV1.out.keep b); (first | obtain ⟨x, rfl⟩ := Wb.nextd b | obtain ⟨x, rfl⟩ := Wb.next b); have HV2 := Lib.hid hv; clear hv b) | (go_at_call 13; refine (DA1.out _).mono ?_; rintro e w1 ⟨v1, rfl, hv, b⟩; (first | obtain ⟨x, rfl⟩ := Wb.nextd b | obtain ⟨x, rfl⟩ := Wb.next b); have HV1 := Lib.hid hv; clear hv b) | (go_at_call 14; refine (DA2.out _).mono ?_; rintro e w1 ⟨v2, rfl, hv, b⟩; have HV1 := Lib.hid (HV1.out.keep b); (first | obtain ⟨x, rfl⟩ := Wb.nextd b | obtain ⟨x, rfl⟩ := Wb.next b); have HV2 := Lib.hid hv; clear hv b) | (go_at_call 15; refine (SE1.out _).mono ?_; rintro e w1 ⟨v1, rfl, hv, b⟩; (first | obtain ⟨x, rfl⟩ := Wb.nextd b | obtain ⟨x, rfl⟩ := Wb.next b); have HV1 := Lib.hid hv; clear hv b) | (go_at_call 16; refine (SE2.out _).mono ?_; rintro e w1 ⟨v2, rfl, hv, b⟩; have HV1 := Lib.hid (HV1.out.keep b); (first | obtain ⟨x, rfl⟩ := Wb.nextd b | obtain ⟨x, rfl⟩ := Wb.next b); have HV2 := Lib.hid hv; clear hv b) | (go_at_call 10; first | (refine (same_true A1 _ _ _ LA.out.1 HV1.out HV2.out).mono ?_; rintro e w1 ⟨rfl, b⟩; (first | obtain ⟨x, rfl⟩ := Wb.nextd b | obtain ⟨x, rfl⟩ := Wb.next b); clear b HV1 HV2) | (refine (same_true A2 _ _ _ LA.out.2.1 HV1.out HV2.out).mono ?_; rintro e w1 ⟨rfl, b⟩; (first | obtain ⟨x, rfl⟩ := Wb.nextd b | obtain ⟨x, rfl⟩ := Wb.next b); clear b HV1 HV2) | (refine (same_true A3 _ _ _ LA.out.2.2 HV1.out HV2.out).mono ?_; rintro e w1 ⟨rfl, b⟩; (first | obtain ⟨x, rfl⟩ := Wb.nextd b | obtain ⟨x, rfl⟩ := Wb.next b); clear b HV1 HV2)) | (go_at_call 17; refine (LO.out _).mono ?_; rintro e w1 ⟨rfl, b⟩; (first | obtain ⟨x, rfl⟩ := Wb.nextd b | obtain ⟨x, rfl⟩ := Wb.next b); clear b) | (go_at_call 18; refine (PLO.out _).mono ?_; rintro e w1 ⟨rfl, b⟩; (first | obtain ⟨x, rfl⟩ := Wb.nextd b | obtain ⟨x, rfl⟩ := Wb.next b); clear b) | (go_at_call 19; refine (ST.out _).mono ?_; rintro e w1 ⟨rfl, b⟩; (first | obtain ⟨x, rfl⟩ := Wb.nextd b | obtain ⟨x, rfl⟩ := Wb.next b); clear b) | (go_at_call 20; refine (PST.out _).mono ?_; rintro e w1 ⟨rfl, b⟩; (first | obtain ⟨x, rfl⟩ := Wb.nextd b | obtain ⟨x, rfl⟩ := Wb.next b); clear b) | (go_at_call 21; refine (AC.out _).mono ?_; rintro e w1 ⟨rfl, b⟩; (first | obtain ⟨x, rfl⟩ := Wb.nextd b | obtain ⟨x, rfl⟩ := Wb.next b); clear b) | (go_at_call 22; refine (BR.out _).mono ?_; rintro e w1 ⟨rfl, b⟩; (first | obtain ⟨x, rfl⟩ := Wb.nextd b | obtain ⟨x, rfl⟩ := Wb.next b); clear b) | (go_at_call 23; refine (PBR.out _).mono ?_; rintro e w1 ⟨rfl, b⟩; (first | obtain ⟨x, rfl⟩ := Wb.nextd b | obtain ⟨x, rfl⟩ := Wb.next b); clear b))) | fail
      go_wp2
      go_ret
      exact ⟨rfl, KB.out _⟩
end Go.Proofs.Ytnehdgapcgbdeaa
