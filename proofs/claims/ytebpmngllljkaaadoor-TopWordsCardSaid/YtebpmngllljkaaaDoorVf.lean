/-
  Layer 4, the walks: a text's words, the code's.
  Layer 4, the walks: a text's words, the code's.
-/
import Derived.Test.YtebpmngllljkaaaDoorVg
set_option linter.unusedSimpArgs false
set_option linter.unusedVariables false
namespace GrA
open Go GrP
theorem strL_extract (l : Tx) (a b : Nat) : (strL l).extract a b = strL ((l.drop a).take (b - a)) := by
  apply ByteArray.ext
  apply Array.ext'
  rw [Go.Lib.extract_data]
  rfl
theorem strL_get (l : Tx) (i : Nat) (h : i < l.length) (h2 : i < (strL l).size) : (strL l)[i]'h2 = l[i] := rfl
def sv (t : Tx) : Value := .string (strL t)
theorem take_snoc {l : Tx} {f i : Nat} (h : i < l.length) (hf : f ≤ i) : (l.drop f).take (i + 1 - f) = (l.drop f).take (i - f) ++ [l[i]] := by
  rw [show i + 1 - f = i - f + 1 by omega, List.take_succ_eq_append_getElem (by rw [List.length_drop]; omega)]
  simp [show f + (i - f) = i by omega]
theorem drop_at {l : Tx} {i : Nat} (h : i < l.length) : l.drop i = l[i] :: l.drop (i + 1) := List.drop_eq_getElem_cons h
theorem flush_some {c : Tx} (h : c ≠ []) : flush c = [c] := by rw [flush, if_neg h]
theorem cur_ne {l : Tx} {f i : Nat} (h : f < i) (hi : i ≤ l.length) : (l.drop f).take (i - f) ≠ [] := by
  intro e
  have := congrArg List.length e
  simp at this
  omega
theorem cur_nil {l : Tx} {i : Nat} : (l.drop i).take (i - i) = [] := by simp
theorem blank_nat {c : UInt8} (h : blankB c = true) : c.toNat = 32 ∨ c.toNat = 9 := by
  simp only [blankB, Bool.or_eq_true, beq_iff_eq] at h
  rcases h with rfl | rfl
  · exact .inl rfl
  · exact .inr rfl
theorem blank_not {c : UInt8} (h : blankB c = false) : c.toNat ≠ 32 ∧ c.toNat ≠ 9 := by
  constructor
  · intro e
    have : c = 32 := UInt8.toNat_inj.1 e
    rw [this] at h
    exact absurd h (by decide)
  · intro e
    have : c = 9 := UInt8.toNat_inj.1 e
    rw [this] at h
    exact absurd h (by decide)
/-- where the scan stands -/
def Scan (l : Tx) (L : List Tx) (f i : Nat) : Prop := if i ≤ l.length then f ≤ i ∧ words l = L ++ go ((l.drop f).take (i - f)) (l.drop i) else words l = L
theorem Scan.start (l : Tx) : Scan l [] 0 0 := by unfold Scan; rw [if_pos (by omega)]; exact ⟨by omega, by simp [words]⟩
theorem Scan.plain {l : Tx} {L : List Tx} {f i : Nat} (h : Scan l L f i) (hi : i < l.length) (h1 : signB l[i] = false) (h2 : blankB l[i] = false) : Scan l L f (i + 1) := by
  unfold Scan at *
  rw [if_pos (by omega)] at h ⊢
  refine ⟨by omega, ?_⟩
  rw [h.2, drop_at hi, go_plain h1 h2, take_snoc hi h.1]
theorem Scan.sign0 {l : Tx} {L : List Tx} {i : Nat} (h : Scan l L i i) (hi : i < l.length) (h1 : signB l[i] = true) : Scan l (L ++ [[l[i]]]) (i + 1) (i + 1) := by
  unfold Scan at *
  rw [if_pos (by omega)] at h ⊢
  refine ⟨by omega, ?_⟩
  rw [h.2, drop_at hi, cur_nil, go_sign h1]
  simp [flush]
theorem Scan.sign1 {l : Tx} {L : List Tx} {f i : Nat} (h : Scan l L f i) (hf : f < i) (hi : i < l.length) (h1 : signB l[i] = true) : Scan l ((L ++ [(l.drop f).take (i - f)]) ++ [[l[i]]]) (i + 1) (i + 1) := by
  unfold Scan at *
  rw [if_pos (by omega)] at h ⊢
  refine ⟨by omega, ?_⟩
  rw [h.2, drop_at hi, go_sign h1, flush_some (cur_ne hf (by omega))]
  simp
theorem Scan.blank0 {l : Tx} {L : List Tx} {i : Nat} (h : Scan l L i i) (hi : i < l.length) (h1 : signB l[i] = false) (h2 : blankB l[i] = true) : Scan l L (i + 1) (i + 1) := by
  unfold Scan at *
  rw [if_pos (by omega)] at h ⊢
  refine ⟨by omega, ?_⟩
  rw [h.2, drop_at hi, cur_nil, go_blank h1 h2]
  simp [flush]
theorem Scan.blank1 {l : Tx} {L : List Tx} {f i : Nat} (h : Scan l L f i) (hf : f < i) (hi : i < l.length) (h1 : signB l[i] = false) (h2 : blankB l[i] = true) : Scan l (L ++ [(l.drop f).take (i - f)]) (i + 1) (i + 1) := by
  unfold Scan at *
  rw [if_pos (by omega)] at h ⊢
  refine ⟨by omega, ?_⟩
  rw [h.2, drop_at hi, go_blank h1 h2, flush_some (cur_ne hf (by omega))]
  simp
theorem Scan.end0 {l : Tx} {L : List Tx} {i : Nat} (h : Scan l L i i) (hi : i = l.length) : Scan l L (i + 1) (i + 1) := by
  unfold Scan at *
  rw [if_pos (by omega)] at h
  rw [if_neg (by omega), h.2, hi]
  simp [go, flush]
theorem Scan.end1 {l : Tx} {L : List Tx} {f i : Nat} (h : Scan l L f i) (hf : f < i) (hi : i = l.length) : Scan l (L ++ [(l.drop f).take (i - f)]) (i + 1) (i + 1) := by
  unfold Scan at *
  rw [if_pos (by omega)] at h
  rw [if_neg (by omega), h.2]
  have := cur_ne hf (l := l) (by omega)
  rw [show l.drop i = [] by rw [hi]; simp, go, flush_some this]
theorem Scan.le {l : Tx} {L : List Tx} {f i : Nat} (h : Scan l L f i) (hi : i ≤ l.length) : f ≤ i := by unfold Scan at h; rw [if_pos hi] at h; exact h.1
theorem Scan.short {l : Tx} {L : List Tx} {f i : Nat} (h : Scan l L f i) : L.length ≤ l.length := by
  have := go_length [] l
  unfold Scan at h
  split at h
  · have h2 := congrArg List.length h.2
    rw [List.length_append] at h2
    unfold words at h2
    simp at this
    omega
  · unfold words at h
    rw [← h]
    simpa using this
end GrA
namespace Go.Proofs.YtebpmngllljkaaaDoor
open Go.RowKit GrP GrA

theorem strbytes : (Tryd.prog.info? 9).map (fun i => (i.zero, i.size, i.bytes)) = some (some (.string ⟨#[]⟩), 1, 16) := by kernel_rfl
theorem app_bel {w wr w2 : World} {v : Value} {n : Nat} {xs : List Value} {o : Obj} {e : TypeId} (h0 : Below w.heap.size w wr) (h3 : wr.ownsRow w.heap.size e 1 v n xs) (h4 : (wr.alloc o).grownBy w2 v.ownBlock) : Below w.heap.size w w2 :=
  (h0.alloc h0.size o).grown h4 (by have := h0.size; simp; omega) (fun k hk => (h3.lt k hk).1)
theorem s_idx (l : Tx) (i : Nat) (h : i < l.length) (w : World) : (Instr.index 9 (.string (strL l)) (.int .i64 (i : Int))).run Tryd.prog w = .ok (.int .u8 (l[i].toNat : Int)) w := by
  have hs : i < (strL l).size := by rw [strL_size]; exact h
  rw [run_index_string w 9 _ .i64 _ Tryd.underlying9, dif_pos ⟨by omega, by omega⟩]
  simp only [Int.toNat_natCast, strL_get l i h hs]
  rfl
theorem s_cut (l : Tx) (a b : Nat) (h : a ≤ b) (h2 : b ≤ l.length) (w : World) : (Instr.slice 9 (.string (strL l)) (some (.int .i64 (a : Int))) (some (.int .i64 (b : Int))) none).run Tryd.prog w = .ok (.string (strL ((l.drop a).take (b - a)))) w := by
  rw [run_slice_string w 9 _ .i64 .i64 _ _ Tryd.underlying9 (by omega) (by omega) (by rw [strL_size]; omega), Int.toNat_natCast, Int.toNat_natCast, strL_extract]

def WordsPost (l : Tx) (w : World) (e : Ending) (w' : World) : Prop := ∃ v, e = .returned v ∧ w'.ownsRow w.heap.size 9 1 v (words l).length ((words l).map sv) ∧ Below w.heap.size w w'

end Go.Proofs.YtebpmngllljkaaaDoor

namespace Go.Proofs.YtebpmngllljkaaaDoor
open Go.RowKit GrP GrA

set_option maxRecDepth 100000 in
set_option maxHeartbeats 6400000 in
theorem words_any (l : Tx) (w : World) (hl : l.length ≤ 4194304) : Calls Tryd.prog 14 #[.string (strL l)] w (WordsPost l w) := by
  obtain ⟨i0, hi, hz0, hz1, hz2⟩ := info_parts strbytes
  obtain ⟨n, hn⟩ : ∃ n, n = l.length := ⟨_, rfl⟩
  have hsz : (strL l).size = n := by rw [strL_size, hn]
  have HN := Lib.hid hn
  have LL := Lib.hid hl
  have n0 : (0 : Int) ≤ (n : Int) := by omega
  have n1 : (n : Int) ≤ 4194304 := by omega
  clear hl hn
  go_enter Tryd.func14, Tryd.ntmps14
  go_wp2_with fail
  go_loopw [3, 4, 5] (fun v fv iv wr => ∃ (i f : Nat) (L : List Tx), i ≤ n + 1 ∧ iv = .int .i64 (i : Int) ∧ fv = .int .i64 (f : Int) ∧ Scan l L f i ∧ wr.ownsRow w.heap.size 9 1 v L.length (L.map sv) ∧ Below w.heap.size w wr) (fun _ _ iv _ => n + 1 - (intOf iv).toNat)
  case atStart => exact ⟨0, 0, [], by omega, rfl, rfl, Scan.start l, World.ownsRow_nil _ _ _ _, Below.refl _ _⟩
  case round =>
    obtain ⟨i, f, L, hi1, rfl, rfl, hsc, hown, hbel⟩ := hrel
    have HO := Lib.hid hown
    have HB := Lib.hid hbel
    have hn := HN.out
    have LS := Lib.hid (show L.length ≤ 4194304 by have := hsc.short; have := LL.out; omega)
    have j0 : (0 : Int) ≤ (i : Int) := by omega
    have j1 : (i : Int) ≤ 4194305 := by omega
    clear hown hbel
    by_cases c0 : i ≤ n
    · have d0 : (i : Int) ≤ (n : Int) := by omega
      have HI := Lib.hid (show i + 1 ≤ n + 1 by omega)
      clear hi1
      have hfi := hsc.le (by omega)
      obtain ⟨cur, hcur⟩ : ∃ c, c = (l.drop f).take (i - f) := ⟨_, rfl⟩
      have hsl := fun w => s_cut l f i hfi (by omega) w
      rw [← hcur] at hsl
      have f0 : (0 : Int) ≤ (f : Int) := by omega
      have f1 : (f : Int) ≤ 4194305 := by omega
      by_cases c1 : i < n
      · have d1 : (i : Int) < (n : Int) := by omega
        have hil : i < l.length := by omega
        obtain ⟨c, hc⟩ : ∃ c, c = l[i] := ⟨_, rfl⟩
        have hix := fun w => s_idx l i hil w
        have hs1 := fun w => s_cut l i (i + 1) (by omega) (by omega) w
        rw [show (l.drop i).take (i + 1 - i) = [c] by rw [drop_at hil, ← hc, show i + 1 - i = 1 by omega]; rfl, show ((i + 1 : Nat) : Int) = (i : Int) + 1 by omega] at hs1
        rw [← hc] at hix
        have SGN := Lib.hid (fun w => sign_any c w)
        cases hsg : signB c with
        | true =>
          rw [hsg] at SGN
          by_cases c2 : f < i
          · have d2 : (f : Int) < (i : Int) := by omega
            have SC := Lib.hid (hsc.sign1 c2 hil (by rw [← hc]; exact hsg))
            rw [← hcur, ← hc] at SC
            obtain ⟨x, hx⟩ : ∃ x, x = c.toNat := ⟨_, rfl⟩
            rw [← hx] at SGN hix
            clear hsc hcur hc hx hsg c0 c1 c2 hil hfi hn
            have k1a := Lib.hid (app_cell wr (sv cur))
            have k1b := Lib.hid (show ∀ u ∈ [sv cur], u.oneCell' = true by simp [Value.oneCell', sv])
            have k1c := Lib.hid (show L.length + 1 ≤ maxLen by have := LS.out; unfold maxLen; omega)
            have k1d := Lib.hid (show (L.length + 1) * 16 ≤ 140737488355328 by have := LS.out; omega)
            have k1e := Lib.hid (show ∀ o : Obj, w.heap.size ≤ (wr.alloc o).heap.size from fun o => by have := HB.out.size; simp; omega)
            go_upto_region 8 with (go_at_call 36; refine (SGN.out _).mono ?_; rintro e w9 ⟨rfl, rfl⟩)
            go_wp2_with (at_builtin; refine wpList_append_own _ rfl (.tmp 38) (.tmp 43) 30 rfl w.heap.size 9 i0 (.string ⟨#[]⟩) 1 16 Tryd.underlying30 hi hz0 hz1 hz2 rfl (by decide) _ _ _ rfl (HO.out.alloc _) ⟨wr.heap.size, 0, none⟩ 1 1 [sv cur] rfl rfl (k1a.out _) k1b.out k1c.out k1d.out (k1e.out _) ?_)
            intro v1 w1 h1 g1 _
            have HB1 := Lib.hid (app_bel HB.out HO.out g1)
            have HO1 := Lib.hid (show w1.ownsRow w.heap.size 9 1 v1 (L ++ [cur]).length ((L ++ [cur]).map sv) by rw [List.length_append, List.map_append]; exact h1)
            clear h1 g1
            have LS := Lib.hid (show (L ++ [cur]).length ≤ 4194305 by have := LS.out; simp; omega)
            have k2a := Lib.hid (app_cell w1 (sv [c]))
            have k2b := Lib.hid (show ∀ u ∈ [sv [c]], u.oneCell' = true by simp [Value.oneCell', sv])
            have k2c := Lib.hid (show (L ++ [cur]).length + 1 ≤ maxLen by have := LS.out; unfold maxLen; omega)
            have k2d := Lib.hid (show ((L ++ [cur]).length + 1) * 16 ≤ 140737488355328 by have := LS.out; omega)
            have k2e := Lib.hid (show ∀ o : Obj, w.heap.size ≤ (w1.alloc o).heap.size from fun o => by have := HB1.out.size; simp; omega)
            go_upto_region 10 with (go_at_call 36; refine (SGN.out _).mono ?_; rintro e w9 ⟨rfl, rfl⟩)
            go_wp2_with (at_builtin; refine wpList_append_own _ rfl (.tmp 55) (.tmp 61) 30 rfl w.heap.size 9 i0 (.string ⟨#[]⟩) 1 16 Tryd.underlying30 hi hz0 hz1 hz2 rfl (by decide) _ _ _ rfl (HO1.out.alloc _) ⟨w1.heap.size, 0, none⟩ 1 1 [sv [c]] rfl rfl (k2a.out _) k2b.out k2c.out k2d.out (k2e.out _) ?_)
            intro v2 w2 h1 g1 _
            have HB2 := Lib.hid (app_bel HB1.out HO1.out g1)
            have HO2 := Lib.hid (show w2.ownsRow w.heap.size 9 1 v2 ((L ++ [cur]) ++ [[c]]).length (((L ++ [cur]) ++ [[c]]).map sv) by simpa using h1)
            clear h1 g1
            go_wp2
            go_roundw
            case rel => exact ⟨i + 1, i + 1, (L ++ [cur]) ++ [[c]], HI.out, by go_num, by go_num, SC.out, HO2.out, HB2.out⟩
            case measure => have := HI.out; simp [intOf] <;> omega

          · obtain rfl : f = i := by omega
            have SC := Lib.hid (hsc.sign0 hil (by rw [← hc]; exact hsg))
            rw [← hc] at SC
            obtain ⟨x, hx⟩ : ∃ x, x = c.toNat := ⟨_, rfl⟩
            rw [← hx] at SGN hix
            clear hsc hcur hc hx hsg c0 c1 c2 hil hfi hn
            have k2a := Lib.hid (app_cell wr (sv [c]))
            have k2b := Lib.hid (show ∀ u ∈ [sv [c]], u.oneCell' = true by simp [Value.oneCell', sv])
            have k2c := Lib.hid (show L.length + 1 ≤ maxLen by have := LS.out; unfold maxLen; omega)
            have k2d := Lib.hid (show (L.length + 1) * 16 ≤ 140737488355328 by have := LS.out; omega)
            have k2e := Lib.hid (show ∀ o : Obj, w.heap.size ≤ (wr.alloc o).heap.size from fun o => by have := HB.out.size; simp; omega)
            go_upto_region 10 with (go_at_call 36; refine (SGN.out _).mono ?_; rintro e w9 ⟨rfl, rfl⟩)
            go_wp2_with (at_builtin; refine wpList_append_own _ rfl (.tmp 55) (.tmp 61) 30 rfl w.heap.size 9 i0 (.string ⟨#[]⟩) 1 16 Tryd.underlying30 hi hz0 hz1 hz2 rfl (by decide) _ _ _ rfl (HO.out.alloc _) ⟨wr.heap.size, 0, none⟩ 1 1 [sv [c]] rfl rfl (k2a.out _) k2b.out k2c.out k2d.out (k2e.out _) ?_)
            intro v2 w2 h1 g1 _
            have HB2 := Lib.hid (app_bel HB.out HO.out g1)
            have HO2 := Lib.hid (show w2.ownsRow w.heap.size 9 1 v2 (L ++ [[c]]).length ((L ++ [[c]]).map sv) by simpa using h1)
            clear h1 g1
            go_wp2
            go_roundw
            case rel => exact ⟨f + 1, f + 1, L ++ [[c]], HI.out, by go_num, by go_num, SC.out, HO2.out, HB2.out⟩
            case measure => have := HI.out; simp [intOf] <;> omega

        | false =>
          rw [hsg] at SGN
          cases hbl : blankB c with
          | false =>
            obtain ⟨e1, e2⟩ := blank_not hbl
            have SC := Lib.hid (hsc.plain hil (by rw [← hc]; exact hsg) (by rw [← hc]; exact hbl))
            obtain ⟨x, hx⟩ : ∃ x, x = c.toNat := ⟨_, rfl⟩
            rw [← hx] at SGN hix e1 e2
            have p1 : ¬ (x : Int) = 32 := by omega
            have p2 : ¬ (x : Int) = 9 := by omega
            have p3 : ((x : Int) == 32) = false := by simp; omega
            have p4 : ((x : Int) == 9) = false := by simp; omega
            have p5 : ((x : Int) != 32) = true := by simp; omega
            have p6 : ((x : Int) != 9) = true := by simp; omega
            clear hsc hcur hc hx hsg hbl e1 e2 c0 c1 hil hfi hn
            go_wp2_with (go_at_call 36; refine (SGN.out _).mono ?_; rintro e w9 ⟨rfl, rfl⟩)
            go_roundw
            case rel => exact ⟨i + 1, f, L, HI.out, by go_num, by go_num, SC.out, HO.out, HB.out⟩
            case measure => have := HI.out; simp [intOf] <;> omega

          | true =>
            have hx := blank_nat hbl
            by_cases c2 : f < i
            · have d2 : (f : Int) < (i : Int) := by omega
              have SC := Lib.hid (hsc.blank1 c2 hil (by rw [← hc]; exact hsg) (by rw [← hc]; exact hbl))
              rw [← hcur] at SC
              obtain ⟨x, hxx⟩ : ∃ x, x = c.toNat := ⟨_, rfl⟩
              rw [← hxx] at SGN hix hx
              clear hsc hcur hc hxx hsg hbl c0 c1 c2 hil hfi hn
              rcases hx with rfl | rfl
              · have k1a := Lib.hid (app_cell wr (sv cur))
                have k1b := Lib.hid (show ∀ u ∈ [sv cur], u.oneCell' = true by simp [Value.oneCell', sv])
                have k1c := Lib.hid (show L.length + 1 ≤ maxLen by have := LS.out; unfold maxLen; omega)
                have k1d := Lib.hid (show (L.length + 1) * 16 ≤ 140737488355328 by have := LS.out; omega)
                have k1e := Lib.hid (show ∀ o : Obj, w.heap.size ≤ (wr.alloc o).heap.size from fun o => by have := HB.out.size; simp; omega)
                go_upto_region 8 with (go_at_call 36; refine (SGN.out _).mono ?_; rintro e w9 ⟨rfl, rfl⟩)
                go_wp2_with (at_builtin; refine wpList_append_own _ rfl (.tmp 38) (.tmp 43) 30 rfl w.heap.size 9 i0 (.string ⟨#[]⟩) 1 16 Tryd.underlying30 hi hz0 hz1 hz2 rfl (by decide) _ _ _ rfl (HO.out.alloc _) ⟨wr.heap.size, 0, none⟩ 1 1 [sv cur] rfl rfl (k1a.out _) k1b.out k1c.out k1d.out (k1e.out _) ?_)
                intro v1 w1 h1 g1 _
                have HB1 := Lib.hid (app_bel HB.out HO.out g1)
                have HO1 := Lib.hid (show w1.ownsRow w.heap.size 9 1 v1 (L ++ [cur]).length ((L ++ [cur]).map sv) by rw [List.length_append, List.map_append]; exact h1)
                clear h1 g1
                go_wp2_with (go_at_call 36; refine (SGN.out _).mono ?_; rintro e w9 ⟨rfl, rfl⟩)
                go_roundw
                case rel => exact ⟨i + 1, i + 1, L ++ [cur], HI.out, by go_num, by go_num, SC.out, HO1.out, HB1.out⟩
                case measure => have := HI.out; simp [intOf] <;> omega

              · have k1a := Lib.hid (app_cell wr (sv cur))
                have k1b := Lib.hid (show ∀ u ∈ [sv cur], u.oneCell' = true by simp [Value.oneCell', sv])
                have k1c := Lib.hid (show L.length + 1 ≤ maxLen by have := LS.out; unfold maxLen; omega)
                have k1d := Lib.hid (show (L.length + 1) * 16 ≤ 140737488355328 by have := LS.out; omega)
                have k1e := Lib.hid (show ∀ o : Obj, w.heap.size ≤ (wr.alloc o).heap.size from fun o => by have := HB.out.size; simp; omega)
                go_upto_region 8 with (go_at_call 36; refine (SGN.out _).mono ?_; rintro e w9 ⟨rfl, rfl⟩)
                go_wp2_with (at_builtin; refine wpList_append_own _ rfl (.tmp 38) (.tmp 43) 30 rfl w.heap.size 9 i0 (.string ⟨#[]⟩) 1 16 Tryd.underlying30 hi hz0 hz1 hz2 rfl (by decide) _ _ _ rfl (HO.out.alloc _) ⟨wr.heap.size, 0, none⟩ 1 1 [sv cur] rfl rfl (k1a.out _) k1b.out k1c.out k1d.out (k1e.out _) ?_)
                intro v1 w1 h1 g1 _
                have HB1 := Lib.hid (app_bel HB.out HO.out g1)
                have HO1 := Lib.hid (show w1.ownsRow w.heap.size 9 1 v1 (L ++ [cur]).length ((L ++ [cur]).map sv) by rw [List.length_append, List.map_append]; exact h1)
                clear h1 g1
                go_wp2_with (go_at_call 36; refine (SGN.out _).mono ?_; rintro e w9 ⟨rfl, rfl⟩)
                go_roundw
                case rel => exact ⟨i + 1, i + 1, L ++ [cur], HI.out, by go_num, by go_num, SC.out, HO1.out, HB1.out⟩
                case measure => have := HI.out; simp [intOf] <;> omega

            · obtain rfl : f = i := by omega
              have SC := Lib.hid (hsc.blank0 hil (by rw [← hc]; exact hsg) (by rw [← hc]; exact hbl))
              obtain ⟨x, hxx⟩ : ∃ x, x = c.toNat := ⟨_, rfl⟩
              rw [← hxx] at SGN hix hx
              clear hsc hcur hc hxx hsg hbl c0 c1 c2 hil hfi hn
              rcases hx with rfl | rfl
              · go_wp2_with (go_at_call 36; refine (SGN.out _).mono ?_; rintro e w9 ⟨rfl, rfl⟩)
                go_roundw
                case rel => exact ⟨f + 1, f + 1, L, HI.out, by go_num, by go_num, SC.out, HO.out, HB.out⟩
                case measure => have := HI.out; simp [intOf] <;> omega

              · go_wp2_with (go_at_call 36; refine (SGN.out _).mono ?_; rintro e w9 ⟨rfl, rfl⟩)
                go_roundw
                case rel => exact ⟨f + 1, f + 1, L, HI.out, by go_num, by go_num, SC.out, HO.out, HB.out⟩
                case measure => have := HI.out; simp [intOf] <;> omega

      · obtain rfl : i = n := by omega
        by_cases c2 : f < i
        · have d2 : (f : Int) < (i : Int) := by omega
          have SC := Lib.hid (hsc.end1 c2 hn)
          rw [← hcur] at SC
          clear hsc hcur c0 c1 c2 hfi hn
          have k1a := Lib.hid (app_cell wr (sv cur))
          have k1b := Lib.hid (show ∀ u ∈ [sv cur], u.oneCell' = true by simp [Value.oneCell', sv])
          have k1c := Lib.hid (show L.length + 1 ≤ maxLen by have := LS.out; unfold maxLen; omega)
          have k1d := Lib.hid (show (L.length + 1) * 16 ≤ 140737488355328 by have := LS.out; omega)
          have k1e := Lib.hid (show ∀ o : Obj, w.heap.size ≤ (wr.alloc o).heap.size from fun o => by have := HB.out.size; simp; omega)
          go_upto_region 8 with fail
          go_wp2_with (at_builtin; refine wpList_append_own _ rfl (.tmp 38) (.tmp 43) 30 rfl w.heap.size 9 i0 (.string ⟨#[]⟩) 1 16 Tryd.underlying30 hi hz0 hz1 hz2 rfl (by decide) _ _ _ rfl (HO.out.alloc _) ⟨wr.heap.size, 0, none⟩ 1 1 [sv cur] rfl rfl (k1a.out _) k1b.out k1c.out k1d.out (k1e.out _) ?_)
          intro v1 w1 h1 g1 _
          have HB1 := Lib.hid (app_bel HB.out HO.out g1)
          have HO1 := Lib.hid (show w1.ownsRow w.heap.size 9 1 v1 (L ++ [cur]).length ((L ++ [cur]).map sv) by rw [List.length_append, List.map_append]; exact h1)
          clear h1 g1
          go_wp2
          go_roundw
          case rel => exact ⟨i + 1, i + 1, L ++ [cur], HI.out, by go_num, by go_num, SC.out, HO1.out, HB1.out⟩
          case measure => have := HI.out; simp [intOf] <;> omega

        · obtain rfl : f = i := by omega
          have SC := Lib.hid (hsc.end0 hn)
          clear hsc hcur c0 c1 c2 hfi hn
          go_wp2
          go_roundw
          case rel => exact ⟨f + 1, f + 1, L, HI.out, by go_num, by go_num, SC.out, HO.out, HB.out⟩
          case measure => have := HI.out; simp [intOf] <;> omega

    · have d0 : ¬ (i : Int) ≤ (n : Int) := by omega
      have E : words l = L := by unfold Scan at hsc; rw [if_neg (by omega)] at hsc; exact hsc
      have E := Lib.hid E
      clear hsc c0 hn hi1
      go_wp2
      go_ret
      rw [WordsPost, E.out]
      exact ⟨_, rfl, HO.out, HB.out⟩

end Go.Proofs.YtebpmngllljkaaaDoor
