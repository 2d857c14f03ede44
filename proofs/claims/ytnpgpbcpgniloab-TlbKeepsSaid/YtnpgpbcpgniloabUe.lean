/-
  Layer 9, the walks: slices.Concat.
-/
import Derived.Test.YtnpgpbcpgniloabUd
set_option linter.unusedSimpArgs false
set_option linter.unusedVariables false
namespace GrT
abbrev VLs := List (Go.Value × List E)
def flatT (V : VLs) (k : Nat) : List E := ((V.take k).map (·.2)).flatten
theorem flatT_succ (V : VLs) (k : Nat) (h : k < V.length) : flatT V (k + 1) = flatT V k ++ V[k].2 := by
  unfold flatT
  rw [List.take_succ_eq_append_getElem h, List.map_append, List.flatten_append]
  simp
theorem flatT_le (V : VLs) : ∀ k m, k ≤ m → m ≤ V.length → (flatT V k).length ≤ (flatT V m).length := fun k m h hm => by
  induction m with
  | zero => obtain rfl : k = 0 := by omega
            exact Nat.le_refl _
  | succ m ih =>
    by_cases c : k = m + 1
    · subst c; exact Nat.le_refl _
    · rw [flatT_succ V m (by omega), List.length_append]
      have := ih (by omega) (by omega)
      omega
end GrT
namespace Go.Proofs.Ytnpgpbcpgniloab
open Go.RowKit GrT

set_option maxRecDepth 100000 in
set_option maxHeartbeats 6400000 in
theorem concat_any (V : VLs) (B : Nat) (TT : TypeId) (w : World) (hB : Row w B (V.map (·.1)) TT) (hs : ∀ x ∈ V, SlE w x.1 x.2) (hn : (flatT V V.length).length ≤ 1000) (hl : V.length ≤ 10) :
    Calls Try.prog 28 #[.slice (some ⟨B, 0, none⟩) V.length V.length] w fun e w' => ∃ v, e = .returned v ∧ w'.ownsRow w.heap.size 25 4 v (flatT V V.length).length (entsC (flatT V V.length)) ∧ Below w.heap.size w w' := by
  obtain ⟨i0, hi, hz0, hz1, hz2⟩ := info_parts ebytes
  have HB := Lib.hid (fun (U : World) (g : Below w.heap.size w U) (k : Nat) (hk : k < V.length) => (show U.cell? ⟨B, k, none⟩ = some V[k].1 ∧ SlE U V[k].1 V[k].2 from ⟨by have := (hB.below g).cell k; rw [this, List.getElem?_map, List.getElem?_eq_getElem hk]; rfl, (hs _ (List.getElem_mem hk)).below g⟩))
  have FSu := Lib.hid (fun k (h : k < V.length) => flatT_succ V k h)
  have FL := Lib.hid (fun k (h : k ≤ V.length) => Nat.le_trans (flatT_le V k V.length h (Nat.le_refl _)) hn)
  have F0 := Lib.hid (show flatT V 0 = [] from rfl)
  obtain ⟨n, hN⟩ : ∃ n, n = V.length := ⟨_, rfl⟩
  have HN := Lib.hid hN
  have n9 : n ≤ 10 := by omega
  rw [← hN]
  clear hB hs hl hN hn
  go_enter Try.func28, Try.ntmps28
  go_wp2_with fail
  go_loopw [3, 11] (fun sv iv wr => ∃ k : Nat, k ≤ n ∧ sv = .int .i64 ((flatT V k).length : Int) ∧ iv = .int .i64 (k : Int) ∧ Below w.heap.size w wr) (fun _ iv _ => n - (intOf iv).toNat)
  case atStart => exact ⟨0, by omega, by rw [F0.out]; rfl, rfl, Below.refl _ _⟩
  case round =>
    obtain ⟨k, hk, rfl, rfl, hb⟩ := hrel
    have BB := Lib.hid hb
    clear hb
    by_cases ck : k < n
    · have lk : k < V.length := by have := HN.out; omega
      obtain ⟨c0, s0⟩ := HB.out wr BB.out k lk
      have F1 := Lib.hid (FSu.out k lk)
      have F2 := Lib.hid (FL.out (k + 1) lk)
      obtain ⟨⟨vk, Lk⟩, hv⟩ : ∃ v, v = V[k] := ⟨_, rfl⟩
      rw [← hv] at c0 s0 F1
      simp only at c0 s0 F1
      obtain ⟨p, m, c, rfl⟩ := SlAt.form s0
      have E1 := Lib.hid s0.len
      have E2 := Lib.hid (show (flatT V (k + 1)).length = (flatT V k).length + m by rw [F1.out, List.length_append, E1.out])
      obtain ⟨q, hq⟩ : ∃ q, q = (flatT V k).length := ⟨_, rfl⟩
      rw [← hq] at E2 ⊢
      clear hv lk s0 hq F1
      have b1 : (q : Int) + (m : Int) ≤ 1000 := by have := F2.out; have := E2.out; omega
      have b2 : (0 : Int) ≤ (q : Int) + (m : Int) := by omega
      have b3 : decide ((q : Int) + (m : Int) < 0) = false := by simp; omega
      have i0' : (0 : Int) ≤ (k : Int) := by omega
      have i1 : (k : Int) < (n : Int) := by omega
      go_wp2
      go_roundw
      case rel => exact ⟨k + 1, by omega, by rw [E2.out]; go_num, by go_num, BB.out⟩
      case measure => simp [intOf]; omega
    · obtain rfl : n = k := by omega
      have F2 := Lib.hid (FL.out n (by have := HN.out; omega))
      obtain ⟨q, hq⟩ : ∃ q, q = (flatT V n).length := ⟨_, rfl⟩
      have QL := Lib.hid hq
      rw [← hq] at F2 ⊢
      clear hq
      go_wp2_with fail
      refine (grow_any q wr (by have := F2.out; omega)).mono ?_
      rintro e w2 ⟨gv, rfl, ow, g⟩
      have OW := Lib.hid (own_base ow BB.out.size)
      have B2 := Lib.hid (BB.out.trans (g.mono BB.out.size))
      clear ow g
      go_wp2_with fail
      go_loopw [6, 27] (fun ov iv wr => ∃ k : Nat, k ≤ n ∧ iv = .int .i64 (k : Int) ∧ wr.ownsRow w.heap.size 25 4 ov (flatT V k).length (entsC (flatT V k)) ∧ Below w.heap.size w wr) (fun _ iv _ => n - (intOf iv).toNat)
      case atStart => exact ⟨0, by omega, rfl, by rw [F0.out]; exact OW.out, B2.out⟩
      case round =>
        obtain ⟨k, hk, rfl, hown, hb⟩ := hrel
        have BB := Lib.hid hb
        have HO := Lib.hid hown
        clear hb hown
        by_cases ck : k < n
        · have lk : k < V.length := by have := HN.out; omega
          obtain ⟨c0, s0⟩ := HB.out _ BB.out k lk
          have F1 := Lib.hid (FSu.out k lk)
          have F2 := Lib.hid (FL.out (k + 1) lk)
          obtain ⟨⟨vk, Lk⟩, hv⟩ : ∃ v, v = V[k] := ⟨_, rfl⟩
          rw [← hv] at c0 s0 F1
          simp only at c0 s0 F1
          obtain ⟨q, hq⟩ : ∃ q, q = (flatT V k).length := ⟨_, rfl⟩
          have E2 := Lib.hid (show (flatT V (k + 1)).length = q + Lk.length by rw [F1.out, List.length_append, hq])
          rw [← hq] at HO
          have b1 : q + Lk.length ≤ 1000 := by have := F2.out; have := E2.out; omega
          have i0' : (0 : Int) ≤ (k : Int) := by omega
          have i1 : (k : Int) < (n : Int) := by omega
          obtain ⟨hl2, ⟨rfl, h0⟩ | ⟨a, c, rfl, hc, hm, hx⟩⟩ := s0
          · obtain rfl : Lk = [] := List.eq_nil_of_length_eq_zero h0
            clear hv lk hq h0 hl2
            go_wp2_with (at_builtin; refine wpList_append_own_none rfl _ _ 27 rfl w.heap.size 25 i0 4 Try.underlying27 hi _ _ _ rfl HO.out rfl ?_)
            go_wp2
            go_roundw
            case rel => exact ⟨k + 1, by omega, by go_num, by rw [E2.out, F1.out, List.append_nil]; exact HO.out, BB.out⟩
            case measure => simp [intOf]; omega
          · have HX := Lib.hid hx
            have N1 := Lib.hid (entsC_one Lk)
            have HL := Lib.hid hl2
            have EM := Lib.hid (rfl : Lk.length = Lk.length)
            obtain ⟨m, hm2⟩ : ∃ m, m = Lk.length := ⟨_, rfl⟩
            rw [← hm2] at HL E2 b1 c0
            clear hv lk hq hl2 hx hc hm hm2
            go_wp2_with (at_builtin; refine wpList_append_own _ rfl _ _ 27 rfl w.heap.size 25 i0 (.agg #[.int .i64 0, .int .u64 0, .int .u64 0, .int .u64 0]) 4 32 Try.underlying27 hi hz0 hz1 hz2 rfl (by decide) _ _ _ rfl HO.out a m c (entsC Lk) rfl HL.out HX.out N1.out (by unfold maxLen; omega) (by omega) BB.out.size ?_)
            intro v2 w5 h2 hg2 _
            have O5 := Lib.hid (show w5.ownsRow w.heap.size 25 4 v2 (flatT V (k + 1)).length (entsC (flatT V (k + 1))) by rw [E2.out, F1.out, entsC_app]; exact h2)
            have B5 := Lib.hid (show Below w.heap.size w w5 from BB.out.grown hg2 BB.out.size (fun k hk => (HO.out.lt k hk).1))
            clear h2 hg2 HX N1
            go_wp2
            go_roundw
            case rel => exact ⟨k + 1, by omega, by go_num, O5.out, B5.out⟩
            case measure => simp [intOf]; omega
        · obtain rfl : n = k := by omega
          go_wp2
          go_ret
          exact ⟨_, rfl, HO.out, BB.out⟩
end Go.Proofs.Ytnpgpbcpgniloab
