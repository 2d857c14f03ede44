/-
  Layer 4, the laws: the page's Words; AsmWords.
-/
import Derived.Test.YtebpmngllljkaaaDoorV6
import Derived.Test.YtebpmngllljkaaaDoorV3
set_option linter.unusedSimpArgs false
set_option linter.unusedVariables false
namespace GrA
/-- where the page's scan stands -/
def PInv (l : Tx) (out : List Tx) (opn : Bool) (i : Nat) : Prop :=
  (opn = false ∧ words l = out ++ go [] (l.drop i)) ∨ (opn = true ∧ ∃ O cur, out = O ++ [cur] ∧ cur ≠ [] ∧ words l = O ++ go cur (l.drop i))
theorem PInv.start (l : Tx) : PInv l [] false 0 := .inl ⟨rfl, rfl⟩
theorem sign_not_blank {c : UInt8} (h : blankB c = true) : signB c = false := by
  cases h2 : signB c with
  | false => rfl
  | true => rw [sign_blank c h2] at h; cases h
theorem PInv.blank {l : Tx} {out : List Tx} {opn : Bool} {i : Nat} (h : PInv l out opn i) (hi : i < l.length) (hb : blankB l[i] = true) : PInv l out false (i + 1) := by
  have hs := sign_not_blank hb
  refine .inl ⟨rfl, ?_⟩
  rcases h with ⟨_, e⟩ | ⟨_, O, cur, rfl, hc, e⟩
  · rw [e, drop_at hi, go_blank hs hb]; rfl
  · rw [e, drop_at hi, go_blank hs hb, flush_some hc]; simp
theorem PInv.sign {l : Tx} {out : List Tx} {opn : Bool} {i : Nat} (h : PInv l out opn i) (hi : i < l.length) (hs : signB l[i] = true) : PInv l (out ++ [[l[i]]]) false (i + 1) := by
  refine .inl ⟨rfl, ?_⟩
  rcases h with ⟨_, e⟩ | ⟨_, O, cur, rfl, hc, e⟩
  · rw [e, drop_at hi, go_sign hs]; simp [flush]
  · rw [e, drop_at hi, go_sign hs, flush_some hc]; simp
theorem PInv.first {l : Tx} {out : List Tx} {i : Nat} (h : PInv l out false i) (hi : i < l.length) (hs : signB l[i] = false) (hb : blankB l[i] = false) : PInv l (out ++ [[l[i]]]) true (i + 1) := by
  rcases h with ⟨_, e⟩ | ⟨x, _⟩
  · exact .inr ⟨rfl, out, [l[i]], rfl, by simp, by rw [e, drop_at hi, go_plain hs hb]; rfl⟩
  · cases x
theorem PInv.more {l : Tx} {O : List Tx} {cur : Tx} {i : Nat} (h : PInv l (O ++ [cur]) true i) (hi : i < l.length) (hs : signB l[i] = false) (hb : blankB l[i] = false) : PInv l (O ++ [cur ++ [l[i]]]) true (i + 1) := by
  rcases h with ⟨x, _⟩ | ⟨_, O2, cur2, e2, hc, e⟩
  · cases x
  · obtain ⟨h1, h2⟩ := List.append_inj' e2 rfl
    injection h2 with h2
    subst h1 h2
    exact .inr ⟨rfl, O, cur ++ [l[i]], rfl, by simp, by rw [e, drop_at hi, go_plain hs hb]⟩
theorem PInv.parts {l : Tx} {out : List Tx} {i : Nat} (h : PInv l out true i) : ∃ O cur, out = O ++ [cur] ∧ cur ≠ [] := by
  rcases h with ⟨x, _⟩ | ⟨_, O2, cur2, e2, hc, _⟩
  · cases x
  · exact ⟨O2, cur2, e2, hc⟩
theorem PInv.fin {l : Tx} {out : List Tx} {opn : Bool} (h : PInv l out opn l.length) : out = words l := by
  rcases h with ⟨_, e⟩ | ⟨_, O, cur, rfl, hc, e⟩
  · rw [e]; simp [go, flush]
  · rw [e]; simp [go, flush, hc]
theorem go_first (t : Tx) : ∀ cur : Tx, cur ≠ [] → ∃ x ∈ go cur t, cur.length ≤ x.length := by
  induction t with
  | nil => intro cur hc; exact ⟨cur, by rw [go, flush_some hc]; simp, Nat.le_refl _⟩
  | cons c t ih =>
    intro cur hc
    by_cases hs : signB c = true
    · exact ⟨cur, by rw [go_sign hs, flush_some hc]; simp, Nat.le_refl _⟩
    · have hs : signB c = false := by simpa using hs
      by_cases hb : blankB c = true
      · exact ⟨cur, by rw [go_blank hs hb, flush_some hc]; simp, Nat.le_refl _⟩
      · have hb : blankB c = false := by simpa using hb
        obtain ⟨x, hx, hl⟩ := ih (cur ++ [c]) (by simp)
        exact ⟨x, by rw [go_plain hs hb]; exact hx, by rw [List.length_append] at hl; omega⟩
theorem PInv.curlen {l : Tx} {O : List Tx} {cur : Tx} {i : Nat} (h : PInv l (O ++ [cur]) true i) : cur.length ≤ l.length := by
  rcases h with ⟨x, _⟩ | ⟨_, O2, cur2, e2, hc, e⟩
  · cases x
  · obtain ⟨h1, h2⟩ := List.append_inj' e2 rfl
    injection h2 with h2
    subst h1 h2
    obtain ⟨x, hx, hl⟩ := go_first (l.drop i) cur hc
    exact Nat.le_trans hl (words_mem (by rw [e]; exact List.mem_append_right _ hx))
theorem PInv.short {l : Tx} {out : List Tx} {opn : Bool} {i : Nat} (h : PInv l out opn i) : out.length ≤ l.length := by
  have hw := go_length [] l
  simp only [List.length_nil, Nat.zero_add] at hw
  have hw : (words l).length ≤ l.length := hw
  rcases h with ⟨_, e⟩ | ⟨_, O, cur, rfl, hc, e⟩
  · rw [e, List.length_append] at hw; omega
  · have : 1 ≤ (go cur (l.drop i)).length := by
      have key : ∀ (t cur : Tx), cur ≠ [] → 1 ≤ (go cur t).length := by
        intro t
        induction t with
        | nil => intro cur hc; rw [go, flush_some hc]; simp
        | cons c t ih =>
          intro cur hc
          by_cases hs : signB c = true
          · rw [go_sign hs, flush_some hc]; simp
          · have hs : signB c = false := by simpa using hs
            by_cases hb : blankB c = true
            · rw [go_blank hs hb, flush_some hc]; simp
            · have hb : blankB c = false := by simpa using hb
              rw [go_plain hs hb]
              exact ih _ (by simp)
      exact key _ _ hc
    rw [e, List.length_append] at hw
    simp
    omega
end GrA
namespace Go.Proofs.YtebpmngllljkaaaDoor
open Go.RowKit GrP GrA

theorem strL_snoc (a : Tx) (c : UInt8) : strL a ++ strL [c] = strL (a ++ [c]) := strL_app a [c]

set_option maxRecDepth 100000 in
set_option maxHeartbeats 12800000 in
theorem rwords_any (l : Tx) (w : World) (hl : l.length ≤ 4194304) : Calls Tryd.prog 15 #[.string (strL l)] w (WordsPost l w) := by
  obtain ⟨i0, hi, hz0, hz1, hz2⟩ := info_parts strbytes
  obtain ⟨n, hn⟩ : ∃ n, n = l.length := ⟨_, rfl⟩
  have hsz : (strL l).size = n := by rw [strL_size, hn]
  have HN := Lib.hid hn
  have LL := Lib.hid hl
  have n0 : (0 : Int) ≤ (n : Int) := by omega
  have n1 : (n : Int) ≤ 4194304 := by omega
  clear hl hn
  go_enter Tryd.func15, Tryd.ntmps15
  go_wp2_with fail
  go_loopw [3, 4, 5] (fun v ov iv wr => ∃ (i : Nat) (L : List Tx) (b : Bool), i ≤ n ∧ iv = .int .i64 (i : Int) ∧ ov = .bool b ∧ PInv l L b i ∧ wr.ownsRow w.heap.size 9 1 v L.length (L.map sv) ∧ Below w.heap.size w wr) (fun _ _ iv _ => n - (intOf iv).toNat)
  case atStart => exact ⟨0, [], false, by omega, rfl, rfl, PInv.start l, World.ownsRow_nil _ _ _ _, Below.refl _ _⟩
  case round =>
    obtain ⟨i, L, b, hi1, rfl, rfl, hsc, hown, hbel⟩ := hrel
    have HO := Lib.hid hown
    have HB := Lib.hid hbel
    have hn := HN.out
    have LS := Lib.hid (show L.length ≤ 4194304 by have := hsc.short; have := LL.out; omega)
    have j0 : (0 : Int) ≤ (i : Int) := by omega
    have j1 : (i : Int) ≤ 4194304 := by omega
    clear hown hbel
    by_cases c1 : i < n
    · have d1 : (i : Int) < (n : Int) := by omega
      have HI := Lib.hid (show i + 1 ≤ n by omega)
      have hil : i < l.length := by omega
      obtain ⟨c, hc⟩ : ∃ c, c = l[i] := ⟨_, rfl⟩
      have hix := fun w => s_idx l i hil w
      have hs1 := fun w => s_cut l i (i + 1) (by omega) (by omega) w
      rw [show (l.drop i).take (i + 1 - i) = [c] by rw [drop_at hil, ← hc, show i + 1 - i = 1 by omega]; rfl, show ((i + 1 : Nat) : Int) = (i : Int) + 1 by omega] at hs1
      rw [← hc] at hix
      have OWN := Lib.hid (fun w => own_any c w)
      cases hbl : blankB c with
      | true =>
        have SC := Lib.hid (hsc.blank hil (by rw [← hc]; exact hbl))
        have hx := blank_nat hbl
        obtain ⟨x, hxx⟩ : ∃ x, x = c.toNat := ⟨_, rfl⟩
        rw [← hxx] at OWN hix hx
        clear hsc hc hxx hbl c1 hil hn hi1
        rcases hx with rfl | rfl
        all_goals
          go_wp2_with fail
          go_roundw
          case rel => exact ⟨i + 1, L, false, HI.out, by go_num, rfl, SC.out, HO.out, HB.out⟩
          case measure => have := HI.out; simp [intOf] <;> omega
      | false =>
        obtain ⟨e1, e2⟩ := blank_not hbl
        cases hsg : signB c with
        | true =>
          rw [hsg] at OWN
          have SC := Lib.hid (hsc.sign hil (by rw [← hc]; exact hsg))
          rw [← hc] at SC
          obtain ⟨x, hxx⟩ : ∃ x, x = c.toNat := ⟨_, rfl⟩
          rw [← hxx] at OWN hix e1 e2
          have p1 : ¬ (x : Int) = 32 := by omega
          have p2 : ¬ (x : Int) = 9 := by omega
          have p3 : ((x : Int) == 32) = false := by simp; omega
          have p4 : ((x : Int) == 9) = false := by simp; omega
          clear hsc hc hxx hsg hbl e1 e2 c1 hil hn hi1
          have k2a := Lib.hid (app_cell wr (sv [c]))
          have k2b := Lib.hid (show ∀ u ∈ [sv [c]], u.oneCell' = true by simp [Value.oneCell', sv])
          have k2c := Lib.hid (show L.length + 1 ≤ maxLen by have := LS.out; unfold maxLen; omega)
          have k2d := Lib.hid (show (L.length + 1) * 16 ≤ 140737488355328 by have := LS.out; omega)
          have k2e := Lib.hid (show ∀ o : Obj, w.heap.size ≤ (wr.alloc o).heap.size from fun o => by have := HB.out.size; simp; omega)
          cases b
          all_goals
            go_upto_region 9 with (go_at_call 37; refine (OWN.out _).mono ?_; rintro e w9 ⟨rfl, rfl⟩)
            go_wp2_with (at_builtin; refine wpList_append_own _ rfl (.tmp 30) (.tmp 36) 30 rfl w.heap.size 9 i0 (.string ⟨#[]⟩) 1 16 Tryd.underlying30 hi hz0 hz1 hz2 rfl (by decide) _ _ _ rfl (HO.out.alloc _) ⟨wr.heap.size, 0, none⟩ 1 1 [sv [c]] rfl rfl (k2a.out _) k2b.out k2c.out k2d.out (k2e.out _) ?_)
            intro v2 w2 h1 g1 _
            have HB2 := Lib.hid (app_bel HB.out HO.out g1)
            have HO2 := Lib.hid (show w2.ownsRow w.heap.size 9 1 v2 (L ++ [[c]]).length ((L ++ [[c]]).map sv) by simpa using h1)
            clear h1 g1
            go_wp2_with (go_at_call 37; refine (OWN.out _).mono ?_; rintro e w9 ⟨rfl, rfl⟩)
            go_roundw
            case rel => exact ⟨i + 1, L ++ [[c]], false, HI.out, by go_num, rfl, SC.out, HO2.out, HB2.out⟩
            case measure => have := HI.out; simp [intOf] <;> omega
        | false =>
          rw [hsg] at OWN
          have PS := Lib.hid (show signB l[i] = false by rw [← hc]; exact hsg)
          have PB := Lib.hid (show blankB l[i] = false by rw [← hc]; exact hbl)
          have HIL := Lib.hid hil
          have HC := Lib.hid hc
          have HS := Lib.hid hsc
          obtain ⟨x, hxx⟩ : ∃ x, x = c.toNat := ⟨_, rfl⟩
          rw [← hxx] at OWN hix e1 e2
          have p1 : ¬ (x : Int) = 32 := by omega
          have p2 : ¬ (x : Int) = 9 := by omega
          have p3 : ((x : Int) == 32) = false := by simp; omega
          have p4 : ((x : Int) == 9) = false := by simp; omega
          clear hsc hc hxx hsg hbl e1 e2 c1 hn hi1
          cases b with
          | false =>
            have SC := Lib.hid (HS.out.first HIL.out PS.out PB.out)
            rw [← HC.out] at SC
            have k2a := Lib.hid (app_cell wr (sv [c]))
            have k2b := Lib.hid (show ∀ u ∈ [sv [c]], u.oneCell' = true by simp [Value.oneCell', sv])
            have k2c := Lib.hid (show L.length + 1 ≤ maxLen by have := LS.out; unfold maxLen; omega)
            have k2d := Lib.hid (show (L.length + 1) * 16 ≤ 140737488355328 by have := LS.out; omega)
            have k2e := Lib.hid (show ∀ o : Obj, w.heap.size ≤ (wr.alloc o).heap.size from fun o => by have := HB.out.size; simp; omega)
            go_upto_region 9 with (go_at_call 37; refine (OWN.out _).mono ?_; rintro e w9 ⟨rfl, rfl⟩)
            go_wp2_with (at_builtin; refine wpList_append_own _ rfl (.tmp 30) (.tmp 36) 30 rfl w.heap.size 9 i0 (.string ⟨#[]⟩) 1 16 Tryd.underlying30 hi hz0 hz1 hz2 rfl (by decide) _ _ _ rfl (HO.out.alloc _) ⟨wr.heap.size, 0, none⟩ 1 1 [sv [c]] rfl rfl (k2a.out _) k2b.out k2c.out k2d.out (k2e.out _) ?_)
            intro v2 w2 h1 g1 _
            have HB2 := Lib.hid (app_bel HB.out HO.out g1)
            have HO2 := Lib.hid (show w2.ownsRow w.heap.size 9 1 v2 (L ++ [[c]]).length ((L ++ [[c]]).map sv) by simpa using h1)
            clear h1 g1
            go_wp2_with (go_at_call 37; refine (OWN.out _).mono ?_; rintro e w9 ⟨rfl, rfl⟩)
            go_roundw
            case rel => exact ⟨i + 1, L ++ [[c]], true, HI.out, by go_num, rfl, SC.out, HO2.out, HB2.out⟩
            case measure => have := HI.out; simp [intOf] <;> omega
          | true =>
            obtain ⟨O, cur, rfl, _⟩ := HS.out.parts
            have SC := Lib.hid (HS.out.more HIL.out PS.out PB.out)
            rw [← HC.out] at SC
            have OL := Lib.hid (show (O ++ [cur]).length = O.length + 1 by simp)
            obtain ⟨m, hm⟩ : ∃ m, m = O.length := ⟨_, rfl⟩
            obtain ⟨g, cp, RR, hv, hg, hxl, hcl, hcm, hrow⟩ := own_row HO.out (by rw [OL.out]; omega)
            rw [OL.out, ← hm] at hv
            subst hv
            have RW := Lib.hid hrow
            have HG := Lib.hid hg
            have HCL := Lib.hid hcl
            have HCM := Lib.hid hcm
            have cu : ∀ z : Wb wr, z.at.cell? ⟨g, m, none⟩ = some (.string (strL cur)) := fun z => by
              rw [(RW.out.at z).cell m, List.getElem?_append_left (by simp; omega), hm]
              simp [sv]
            have fu : ∀ (z : Wb wr) (i : Nat), z.at.frozen? ⟨g, i, none⟩ = false := fun z i => (RW.out.at z).free i
            have MH := Lib.hid (show m ≤ 4194304 by have := LS.out; rw [OL.out] at this; omega)
            have m0 : (0 : Int) ≤ (m : Int) := by omega
            have m1 : (m : Int) ≤ 4194304 := by have := MH.out; omega
            have m2 : ((m + 1 : Nat) : Int) = (m : Int) + 1 := by omega
            have m3 : (m : Int) < (m : Int) + 1 := by omega
            have m4 : (m : Int) + 1 - 1 = (m : Int) := by omega
            obtain ⟨zc, hzc⟩ : ∃ z, z = (strL cur).size := ⟨_, rfl⟩
            have ezc : (strL cur).size = zc := hzc.symm
            have CL := Lib.hid (show cur.length ≤ 4194304 by have := HS.out.curlen; have := LL.out; omega)
            have lzc : zc ≤ 4194304 := by rw [hzc, strL_size]; exact CL.out
            have nzc : ¬ 9223372036854775807 < zc + 1 := by omega
            have e1c : (strL [c]).size = 1 := rfl
            have rcc := strL_snoc cur c
            have RL := Lib.hid (show ((O ++ [cur]).map sv ++ RR).set m (.string (strL (cur ++ [c]))) = (O ++ [cur ++ [c]]).map sv ++ RR by
              rw [hm, List.map_append, List.map_append, List.append_assoc, List.set_append_right _ _ (by simp)]
              simp [sv])
            have ML := Lib.hid hm
            clear hm hzc hrow hg hxl hcl hcm
            go_wp2_with (go_at_call 37; refine (OWN.out _).mono ?_; rintro e w9 ⟨rfl, rfl⟩)
            refine wp_region_wb_tail 17 (by kernel_rfl) (by kernel_rfl) ?_
            simp only [List.take_succ_cons, List.take_zero, List.drop_succ_cons, List.drop_zero]
            repeat (go_big_quiet_step (fail))
            refine wpQuiet_nil ?_
            rintro _ ⟨z, rfl⟩
            have HB2 := Lib.hid (show Below w.heap.size w (z.at.setCell ⟨g, m, none⟩ (.string (strL (cur ++ [c])))) from (HB.out.trans (z.bel.mono HB.out.size)).setCell HG.out _)
            have HO2 := Lib.hid (show (z.at.setCell ⟨g, m, none⟩ (.string (strL (cur ++ [c])))).ownsRow w.heap.size 9 1 (.slice (some ⟨g, 0, none⟩) (m + 1) cp) (m + 1) ((O ++ [cur ++ [c]]).map sv) from by
              have r := (RW.out.at z).set m (.string (strL (cur ++ [c])))
              rw [RL.out] at r
              exact row_own HG.out (by simp [ML.out]) (by have := HCL.out; have := OL.out; have := ML.out; omega) HCM.out r)
            have LN := Lib.hid (show (O ++ [cur ++ [c]]).length = m + 1 by simp [ML.out])
            go_wp2_with (go_at_call 37; refine (OWN.out _).mono ?_; rintro e w9 ⟨rfl, rfl⟩)
            go_roundw
            case rel => exact ⟨i + 1, O ++ [cur ++ [c]], true, HI.out, by go_num, rfl, SC.out, by rw [LN.out]; exact HO2.out, HB2.out⟩
            case measure => have := HI.out; simp [intOf] <;> omega
    · obtain rfl : i = n := by omega
      have E := Lib.hid (show L = words l by rw [hn] at hsc; exact hsc.fin)
      have d1 : ¬ (i : Int) < (i : Int) := by omega
      clear hsc c1 hn hi1
      go_wp2
      go_ret
      exact ⟨_, rfl, by rw [← E.out]; exact HO.out, HB.out⟩

set_option maxRecDepth 100000 in
set_option maxHeartbeats 6400000 in
theorem asmWords_walk (b : ByteArray) (w : World) (ht : Tab w) (hb : b.size ≤ 4194304) : Calls Tryd.prog 5 #[.string b] w fun e w' => e = .returned (.bool true) ∧ Below w.heap.size w w' := by
  obtain ⟨l, rfl⟩ : ∃ l : Tx, b = strL l := ⟨b.data.toList, rfl⟩
  have hl : l.length ≤ 4194304 := by rw [strL_size] at hb; exact hb
  have TH := Lib.hid ht
  have W1 := Lib.hid (fun w2 => words_any l w2 hl)
  have W2 := Lib.hid (fun w2 => rwords_any l w2 hl)
  have wl : (words l).length ≤ 4194304 := by
    have := go_length [] l
    simp only [List.length_nil, Nat.zero_add] at this
    exact Nat.le_trans this hl
  unfold WordsPost at W1 W2
  obtain ⟨L, hL⟩ : ∃ L, L = words l := ⟨_, rfl⟩
  rw [← hL] at W1 W2 wl
  obtain ⟨n, hn⟩ : ∃ n, n = L.length := ⟨_, rfl⟩
  rw [← hn] at W1 W2 wl
  have HN := Lib.hid hn
  have n0 : (0 : Int) ≤ (n : Int) := by omega
  have n1 : (n : Int) ≤ 4194304 := by omega
  clear ht hb hl hL hn wl
  go_enter Tryd.func5, Tryd.ntmps5
  go_wp2_with fail
  refine (aawake_any _ TH.out).mono ?_
  rintro e w1 ⟨rfl, g1⟩
  have K1 := Lib.hid g1
  clear g1
  go_wp2_with fail
  refine (W1.out _).mono ?_
  rintro e w2 ⟨v1, rfl, o1, g2⟩
  have K2 := Lib.hid (K1.out.trans (g2.mono K1.out.size))
  have O1 := Lib.hid o1
  clear o1 g2
  go_wp2_with fail
  refine (W2.out _).mono ?_
  rintro e w3 ⟨v2, rfl, o2, g3⟩
  have K3 := Lib.hid (K2.out.trans (g3.mono K2.out.size))
  have O3 := Lib.hid (own_below O1.out g3)
  have P1 := Lib.hid (own_open O3.out)
  have P2 := Lib.hid (own_open o2)
  clear o2 g3
  by_cases hz : n = 0
  · subst hz
    rcases P1.out with ⟨rfl, _⟩ | ⟨g, cap, rfl, _⟩ <;> rcases P2.out with ⟨rfl, _⟩ | ⟨h, cap2, rfl, _⟩
    all_goals
      go_wp2_with fail
      go_loopw [5] (fun iv wr => iv = .int .i64 0 ∧ wr = w3) (fun _ _ => 0)
      case atStart => exact ⟨rfl, rfl⟩
      case round =>
        obtain ⟨rfl, rfl⟩ := hrel
        go_wp2
        go_ret
        exact ⟨rfl, K3.out⟩
  · rcases P1.out with ⟨rfl, h0⟩ | ⟨g, cap, rfl, _, _, c1⟩
    · exact absurd h0 hz
    · rcases P2.out with ⟨rfl, h0⟩ | ⟨h, cap2, rfl, _, _, c2⟩
      · exact absurd h0 hz
      · have C1 := Lib.hid c1
        have C2 := Lib.hid c2
        clear c1 c2 hz
        go_wp2_with fail
        go_loopw [5] (fun iv wr => ∃ i : Nat, i ≤ n ∧ iv = .int .i64 (i : Int) ∧ Below w3.heap.size w3 wr) (fun iv _ => n - (intOf iv).toNat)
        case atStart => exact ⟨0, by omega, rfl, Below.refl _ _⟩
        case round =>
          obtain ⟨i, hi, rfl, hb3⟩ := hrel
          have HB := Lib.hid hb3
          clear hb3
          have i0 : (0 : Int) ≤ (i : Int) := by omega
          by_cases c : i < n
          · have d1 : (i : Int) < (n : Int) := by omega
            obtain ⟨t, ht⟩ : ∃ t, t = L.getD i [] := ⟨_, rfl⟩
            have lt : (L.map sv)[i]? = some (.string (strL t)) := by
              have hl : i < L.length := by rw [← HN.out]; exact c
              rw [List.getElem?_map, List.getElem?_eq_getElem hl, ht, List.getD_eq_getElem?_getD, List.getElem?_eq_getElem hl]
              rfl
            have k1 := C1.out i _ lt
            have k2 := C2.out i _ lt
            have f1 : ∀ z : Wb wr, z.at.cell? ⟨g, i, none⟩ = some (.string (strL t)) := fun z => by
              rw [(HB.out.trans (z.bel.mono HB.out.size)).cell (World.block_lt_of_cell? w3 _ k1)]
              exact k1
            have f2 : ∀ z : Wb wr, z.at.cell? ⟨h, i, none⟩ = some (.string (strL t)) := fun z => by
              rw [(HB.out.trans (z.bel.mono HB.out.size)).cell (World.block_lt_of_cell? w3 _ k2)]
              exact k2
            have HI := Lib.hid (show i + 1 ≤ n by omega)
            clear ht lt k1 k2 hi c
            go_wp2_with fail
            refine wp_region_wb (by kernel_rfl) (by kernel_rfl) ?_
            repeat (go_big_quiet_step (fail))
            refine wpQuiet_nil ?_
            rintro _ ⟨z, rfl⟩
            have HB2 := Lib.hid (HB.out.trans (z.bel.mono HB.out.size))
            go_wp2
            go_roundw
            case rel => exact ⟨i + 1, HI.out, by go_num, HB2.out⟩
            case measure => have := HI.out; simp [intOf] <;> omega
          · obtain rfl : i = n := by omega
            have d1 : ¬ (i : Int) < (i : Int) := by omega
            have HB2 := Lib.hid (K3.out.trans (HB.out.mono K3.out.size))
            clear hi c
            go_wp2
            go_ret
            exact ⟨rfl, HB2.out⟩
end Go.Proofs.YtebpmngllljkaaaDoor
