/-
  Layer 9, the walks: the page's Single.
-/
import Derived.Test.YteiokenijmaloaaUr
import Derived.Test.YteiokenijmaloaaUh
set_option linter.unusedSimpArgs false
set_option linter.unusedVariables false
namespace Go.Proofs.Yteiokenijmaloaa
open Go.RowKit GrT

theorem own_len9 {w : World} {base : Nat} {e : TypeId} {K : Nat} {p : Option Addr} {n c m : Nat} {xs : List Value} (h : w.ownsRow base e K (.slice p n c) m xs) : n = m := by
  rcases own_open h with ⟨e1, h0⟩ | ⟨g, cap, e1, _⟩
  · injection e1 with a b d; omega
  · injection e1 with a b d
/-- how many serve -/
def cnt (L : List E) (s p : Int) : Nat := (L.filter fun e => serves e s p).length
def OneAll (L : List E) : Prop := ∀ a ∈ L, ∀ b ∈ L, cnt L a.space b.page ≤ 1
/-- .. to the first j -/
def OneTo (L : List E) (j : Nat) : Prop := ∀ a ∈ L.take j, ∀ b ∈ L, cnt L a.space b.page ≤ 1
def OneRow (L : List E) (s : Int) (j k : Nat) : Prop := ∀ m (h : m < L.length), m < k → m ≠ j → cnt L s L[m].page ≤ 1
theorem oneRow_same {L : List E} {s : Int} {j : Nat} (h : OneRow L s j j) : OneRow L s j (j + 1) := fun m hm lt ne => h m hm (by omega) ne
theorem oneRow_next {L : List E} {s : Int} {j k : Nat} (hk : k < L.length) (h : OneRow L s j k) (c : cnt L s L[k].page ≤ 1) : OneRow L s j (k + 1) := fun m hm lt ne => by
  by_cases e : m = k
  · subst e; exact c
  · exact h m hm (by omega) ne
theorem oneTo_next {L : List E} {j : Nat} (hj : j < L.length) (h : OneTo L j) (r : OneRow L L[j].space j L.length) (c : cnt L L[j].space L[j].page ≤ 1) : OneTo L (j + 1) := fun a ha b hb => by
  rw [List.take_succ_eq_append_getElem hj, List.mem_append, List.mem_singleton] at ha
  rcases ha with ha | rfl
  · exact h a ha b hb
  · obtain ⟨m, hm, rfl⟩ := List.getElem_of_mem hb
    by_cases e : m = j
    · subst e; exact c
    · exact r m hm hm e

set_option maxRecDepth 100000 in
set_option maxHeartbeats 6400000 in
theorem rsingle_any (v : Value) (L : List E) (w : World) (h : SlE w v L) (hn : L.length ≤ 500) (hlb : LB L) :
    Calls Try.prog 23 #[v] w fun e w' => SaysB (OneAll L) e ∧ Below w.heap.size w w' := by
  have RS := Lib.hid (fun (s p : Int) (p0 : 0 ≤ p) (p1 : p < 18446744073709551616) (U : World) (k : Below w.heap.size w U) => rserving_any v L s p U (h.below k) hn hlb p0 p1)
  obtain ⟨p, n, c, rfl⟩ := SlAt.form h
  have HN := Lib.hid h.len
  have HS := Lib.hid h
  have HL := Lib.hid hlb
  have q9 : (n : Int) ≤ 500 := by have := h.len; omega
  clear h hn hlb
  go_enter Try.func23, Try.ntmps23
  go_wp2_with fail
  go_loopw [3] (fun i wr => ∃ j : Nat, j ≤ n ∧ i = .int .i64 (j : Int) ∧ OneTo L j ∧ Below w.heap.size w wr) (fun i _ => n - (intOf i).toNat)
  case atStart => exact ⟨0, by omega, rfl, (by intro a ha; simp at ha), Below.refl _ _⟩
  case round =>
    obtain ⟨j, hj, rfl, ho, hb⟩ := hrel
    have OT := Lib.hid ho
    have HB := Lib.hid hb
    clear ho hb
    by_cases cj : j < n
    · have lj : j < L.length := by have := HN.out; omega
      obtain ⟨a, rfl⟩ := SlE.addr HS.out (by omega)
      have AT := Lib.hid (fun (U : World) (k : Below w.heap.size w U) => (HS.out.below k).at j lj)
      have ON := Lib.hid (oneTo_next lj OT.out)
      have BX := Lib.hid (HL.out L[j] (List.getElem_mem lj))
      have NO := Lib.hid (fun (b : E) (hb : b ∈ L) (k : ¬ cnt L L[j].space b.page ≤ 1) (o : OneAll L) => k (o L[j] (List.getElem_mem lj) b hb))
      have MJ := Lib.hid (List.getElem_mem lj)
      obtain ⟨⟨x0, x1, x2, x3⟩, hx⟩ : ∃ x, x = L[j] := ⟨_, rfl⟩
      rw [← hx] at AT ON BX NO MJ
      simp only at AT ON NO
      clear hx lj
      have j0 : (0 : Int) ≤ (j : Int) := by omega
      have j1 : (j : Int) < (n : Int) := by omega
      go_wp2_with fail
      go_loopw [4] (fun i wr => ∃ k : Nat, k ≤ n ∧ i = .int .i64 (k : Int) ∧ OneRow L x0 j k ∧ Below w.heap.size w wr) (fun i _ => n - (intOf i).toNat)
      case atStart => exact ⟨0, by omega, rfl, (by intro m _ lt; omega), HB.out⟩
      case round =>
        obtain ⟨k, hk, rfl, hr, hb⟩ := hrel
        have OR := Lib.hid hr
        have HB := Lib.hid hb
        clear hr hb
        by_cases ck : k < n
        · have lk : k < L.length := by have := HN.out; omega
          have k0 : (0 : Int) ≤ (k : Int) := by omega
          have k1 : (k : Int) < (n : Int) := by omega
          have f0 : ∀ y : Wb wr, y.at.cell? (a.add (j * 4)) = some (.int .i64 x0) := fun y => (AT.out _ (HB.out.trans (y.bel.mono HB.out.size))).1
          by_cases cjk : j = k
          · subst cjk
            have d : ((j : Int) != (j : Int)) = false := by simp
            have O2 := Lib.hid (oneRow_same OR.out)
            clear lk
            go_wp2_with fail
            refine wp_region_wb (by kernel_rfl) (by kernel_rfl) ?_
            repeat (go_big_quiet_step (fail))
            refine wpQuiet_nil ?_
            rintro _ ⟨y, rfl⟩
            clear f0
            go_wp2
            go_roundw
            case rel => exact ⟨j + 1, by omega, by go_num, O2.out, HB.out.trans (y.bel.mono HB.out.size)⟩
            case measure => simp [intOf]; omega
          · have d : ((j : Int) != (k : Int)) = true := by simp; omega
            have A2 := Lib.hid (fun (U : World) (q : Below w.heap.size w U) => (HS.out.below q).at k lk)
            have O2 := Lib.hid (oneRow_next lk OR.out)
            have N2 := Lib.hid (NO.out L[k] (List.getElem_mem lk))
            have BY := Lib.hid (HL.out L[k] (List.getElem_mem lk))
            obtain ⟨⟨u0, u1, u2, u3⟩, hu⟩ : ∃ x, x = L[k] := ⟨_, rfl⟩
            rw [← hu] at A2 O2 N2 BY
            simp only at A2 O2 N2
            clear hu lk
            have f1 : ∀ y : Wb wr, y.at.cell? ⟨(a.add (k * 4)).block, (a.add (k * 4)).off + 1, none⟩ = some (.int .u64 u1) := fun y => (A2.out _ (HB.out.trans (y.bel.mono HB.out.size))).2.1
            go_wp2_with fail
            refine wp_region_wb_tail 15 (by kernel_rfl) (by kernel_rfl) ?_
            simp only [List.take_succ_cons, List.take_zero, List.drop_succ_cons, List.drop_zero]
            repeat (go_big_quiet_step (fail))
            refine wpQuiet_nil ?_
            rintro _ ⟨y, rfl⟩
            clear f0 f1
            go_wp2_with fail
            refine (RS.out x0 u1 BY.out.1.1 BY.out.1.2 _ (HB.out.trans (y.bel.mono HB.out.size))).mono ?_
            rintro e w1 ⟨v2, rfl, ow, g⟩
            have K1 := Lib.hid (show Below w.heap.size w w1 from (HB.out.trans (y.bel.mono HB.out.size)).trans (g.mono (HB.out.trans (y.bel.mono HB.out.size)).size))
            obtain ⟨sp, sn, sc, rfl⟩ := SlAt.form (SlAt.own ow)
            have SN := Lib.hid (show cnt L x0 u1 = sn from (own_len9 ow).symm)
            clear ow g
            by_cases c1 : sn ≤ 1
            · have e1 : decide (1 < (sn : Int)) = false := by simp; omega
              have O3 := Lib.hid (O2.out (by rw [SN.out]; exact c1))
              go_wp2
              go_roundw
              case rel => exact ⟨k + 1, by omega, by go_num, O3.out, K1.out⟩
              case measure => simp [intOf]; omega
            · have e1 : decide (1 < (sn : Int)) = true := by simp; omega
              have N3 := Lib.hid (N2.out (by rw [SN.out]; exact c1))
              go_wp2
              go_ret
              exact ⟨⟨false, by first | rfl | simp, fun q => (by cases q), fun q => absurd q N3.out⟩, K1.out⟩
        · obtain rfl : n = k := by omega
          have OR2 := Lib.hid (ON.out (by have := OR.out; rw [HN.out] at this; exact this))
          have f0 : ∀ y : Wb wr, y.at.cell? (a.add (j * 4)) = some (.int .i64 x0) := fun y => (AT.out _ (HB.out.trans (y.bel.mono HB.out.size))).1
          have f1 : ∀ y : Wb wr, y.at.cell? ⟨(a.add (j * 4)).block, (a.add (j * 4)).off + 1, none⟩ = some (.int .u64 x1) := fun y => (AT.out _ (HB.out.trans (y.bel.mono HB.out.size))).2.1
          go_wp2_with fail
          refine wp_region_wb_tail 11 (by kernel_rfl) (by kernel_rfl) ?_
          simp only [List.take_succ_cons, List.take_zero, List.drop_succ_cons, List.drop_zero]
          repeat (go_big_quiet_step (fail))
          refine wpQuiet_nil ?_
          rintro _ ⟨y, rfl⟩
          clear f0 f1
          go_wp2_with fail
          refine (RS.out x0 x1 BX.out.1.1 BX.out.1.2 _ (HB.out.trans (y.bel.mono HB.out.size))).mono ?_
          rintro e w1 ⟨v2, rfl, ow, g⟩
          have K1 := Lib.hid (show Below w.heap.size w w1 from (HB.out.trans (y.bel.mono HB.out.size)).trans (g.mono (HB.out.trans (y.bel.mono HB.out.size)).size))
          obtain ⟨sp, sn, sc, rfl⟩ := SlAt.form (SlAt.own ow)
          have SN := Lib.hid (show cnt L x0 x1 = sn from (own_len9 ow).symm)
          clear ow g
          by_cases c1 : sn ≤ 1
          · have e1 : decide (1 < (sn : Int)) = false := by simp; omega
            have O3 := Lib.hid (OR2.out (by rw [SN.out]; exact c1))
            go_wp2
            go_roundw
            case rel => exact ⟨j + 1, by omega, by go_num, O3.out, K1.out⟩
            case measure => simp [intOf]; omega
          · have e1 : decide (1 < (sn : Int)) = true := by simp; omega
            have N3 := Lib.hid (NO.out _ MJ.out (by rw [SN.out]; exact c1))
            go_wp2
            go_ret
            exact ⟨⟨false, by first | rfl | simp, fun q => (by cases q), fun q => absurd q N3.out⟩, K1.out⟩
    · obtain rfl : n = j := by omega
      have E := Lib.hid (show L.take n = L by rw [HN.out, List.take_length])
      go_wp2
      go_ret
      exact ⟨⟨true, by first | rfl | simp, fun _ => by have := OT.out; unfold OneTo at this; rw [E.out] at this; exact this, fun _ => rfl⟩, HB.out⟩
end Go.Proofs.Yteiokenijmaloaa
