/-
  Layer 10, the walks: the page's Rows.
-/
import Derived.Test.YtagbhhfflgikkaaDoorEs
import Derived.Test.YtagbhhfflgikkaaDoorEr
set_option linter.unusedSimpArgs false
set_option linter.unusedVariables false
namespace Go.Proofs.YtagbhhfflgikkaaDoor
open Go.RowKit GrP GrL Go.Shelf

theorem Tryd.infoRRow : (Tryd.prog.info? 36).map (fun i => (i.zero, i.size, i.bytes)) = some (some (.agg #[.string ⟨#[]⟩, .int .i64 0]), 2, 24) := by kernel_rfl

theorem seq_k {P : Program} {x y : Code} {Q : Exit → Act → World → Prop} {a : Act} {w : World} (h : ∀ K : Act → World → Prop, (∀ a w, y.wp P Q a w → K a w) → x.wp P (Exit.then K Q) a w) : (Code.seq x y).wp P Q a w := wp_seq (h _ fun _ _ h => h)

set_option maxRecDepth 100000 in
set_option maxHeartbeats 12800000 in
theorem rrows_any (s : Tx) (w : World) (hs : s.length ≤ 4194304) : Calls Tryd.prog 11 #[.string (strL s)] w fun e w' => ∃ v, e = .returned v ∧ w'.ownsRow w.heap.size 36 2 v (rowsL s).length (rowCells (rowsL s)) ∧ Below w.heap.size w w' := by
  obtain ⟨i0, hi, hz0, hz1, hz2⟩ := info_parts Tryd.infoRRow
  obtain ⟨n, hn⟩ : ∃ n, n = s.length := ⟨_, rfl⟩
  have hsz : (strL s).size = n := by rw [strL_size, hn]
  have HN := Lib.hid hn
  have n0 : (0 : Int) ≤ (n : Int) := by omega
  have n1 : (n : Int) ≤ 4194304 := by omega
  clear hs hn
  go_enter Tryd.func11, Tryd.ntmps11
  go_wp2_with fail
  go_loopw [3, 4] (fun v fv wr => ∃ (f : Nat) (L : List (Tx × Nat)), fv = .int .i64 (f : Int) ∧ Rws s L f ∧ wr.ownsRow w.heap.size 36 2 v L.length (rowCells L) ∧ Below w.heap.size w wr) (fun _ fv _ => n + 1 - (intOf fv).toNat)
  case atStart => exact ⟨0, [], rfl, Rws.start s, World.ownsRow_nil _ _ _ _, Below.refl _ _⟩
  case round =>
    obtain ⟨f, L, rfl, hr, hown, hbel⟩ := hrel
    obtain ⟨V, rfl⟩ : ∃ V, V = wr := ⟨_, rfl⟩
    have HO := Lib.hid hown
    have HB := Lib.hid hbel
    have HR := Lib.hid hr
    have LS := Lib.hid (rows_short hr)
    have f0 : (0 : Int) ≤ (f : Int) := by omega
    clear hr hown hbel
    by_cases cf : f ≤ n
    · have d1 : (f : Int) ≤ (n : Int) := by omega
      have FN := Lib.hid cf
      obtain ⟨tw, rl, hP⟩ := parts_of s f (by have := HN.out; omega)
      have NX := Lib.hid (HR.out.next (by have := HN.out; omega))
      have LI := Lib.hid (fun j (h : j < lineN s f) hl => line_in (s := s) (f := f) (j := j) h hl)
      have LO := Lib.hid (fun hl => line_out (s := s) (f := f) hl)
      have OC := Lib.hid (fun p hp => occ_line s f (lineN s f) p hp (lineN_le s f (by have := HN.out; omega)))
      obtain ⟨line, hline⟩ : ∃ line, line = (s.drop f).take (lineN s f) := ⟨_, rfl⟩
      have LL := Lib.hid (show line.length = lineN s f by rw [hline, List.length_take, List.length_drop]; have := lineN_le s f (by have := HN.out; omega); omega)
      rw [← hline] at hP OC
      clear hline
      obtain ⟨m, hm⟩ : ∃ m, m = lineN s f := ⟨_, rfl⟩
      rw [← hm] at hP NX LI LO OC LL
      obtain ⟨e, he⟩ : ∃ e, e = remark line 0 := ⟨_, rfl⟩
      have HE := Lib.hid he
      rw [← he] at hP
      have HP := Lib.hid hP
      have m9 : (f : Int) + (m : Int) ≤ (n : Int) := by have := hP.fm; have := HN.out; omega
      have m0 : (0 : Int) ≤ (m : Int) := by omega
      clear cf hm he hP
      go_upto_region 4 with fail
      go_cut [5] (fun v wx => v = .int .i64 (f : Int) ∧ V = wx)
      case first => go_wp2; go_meet; case rel => exact ⟨rfl, rfl⟩
      case rest =>
      obtain ⟨rfl, rfl⟩ := hcut
      refine ‹∀ (a : Act) (w : World), Code.wp _ _ _ a w → _› _ _ ?_
      refine seq_k fun K1 h1 => ?_
      go_cut [5] (fun v wx => v = .int .i64 ((f : Int) + (m : Int)) ∧ V = wx)
      case first =>
        go_wp2_with fail
        go_loopw [5] (fun tv w2 => ∃ j : Nat, j ≤ m ∧ tv = .int .i64 ((f : Int) + (j : Int)) ∧ w2 = V) (fun tv _ => n + 1 - (intOf tv).toNat)
        case atStart => exact ⟨0, by omega, by simp, rfl⟩
        case round =>
          obtain ⟨j, hj, rfl, rfl⟩ := hrel
          have j0 : (0 : Int) ≤ (j : Int) := by omega
          have j9 : (f : Int) + (j : Int) ≤ (n : Int) := by omega
          by_cases cj : j < m
          · have hil : f + j < s.length := by have := HN.out; omega
            have jl : (f : Int) + (j : Int) < (n : Int) := by have := HN.out; omega
            have ix := fun w => s_idx s (f + j) hil w
            have NE := LI.out j cj hil
            obtain ⟨x, hx⟩ : ∃ x, x = (s[f + j]'hil).toNat := ⟨_, rfl⟩
            have x1 : ¬ (x : Int) = 10 := by
              intro h
              refine NE (UInt8.toNat_inj.1 ?_)
              rw [← hx]
              show x = 10
              omega
            have x2 : ((x : Int) != 10) = true := by simp; omega
            rw [← hx, Int.natCast_add] at ix
            have CJ := Lib.hid cj
            clear hx NE hil cj hj
            go_wp2_with fail
            go_roundw
            case rel => exact ⟨j + 1, CJ.out, by go_num, trivial⟩
            case measure => have := CJ.out; have := HP.out.fm; have := HN.out; simp [intOf]; omega
          · obtain rfl : j = m := by omega
            by_cases ce : f + j < s.length
            · have jl : (f : Int) + (j : Int) < (n : Int) := by have := HN.out; omega
              have ix := fun w => s_idx s (f + j) ce w
              have NE := LO.out ce
              rw [NE, Int.natCast_add] at ix
              clear NE ce cj hj
              go_wp2
              go_meet
              case rel => exact ⟨rfl, rfl⟩
            · have jl : ¬ (f : Int) + (j : Int) < (n : Int) := by have := HN.out; omega
              clear ce cj hj
              go_wp2
              go_meet
              case rel => exact ⟨rfl, rfl⟩
      case rest =>
      obtain ⟨rfl, rfl⟩ := hcut
      clear LI LO
      refine h1 _ _ ?_
      go_upto_region 8 with fail
      go_cut [6, 7] (fun v6 v7 wx => v6 = .int .i64 ((f : Int) + (m : Int)) ∧ v7 = .int .i64 ((f : Int) + (m : Int) - 2) ∧ V = wx)
      case first => go_wp2; go_meet; case rel => exact ⟨rfl, rfl, rfl⟩
      case rest =>
      obtain ⟨rfl, rfl, rfl⟩ := hcut
      apply_assumption
      go_cut [6] (fun v wx => v = .int .i64 ((f : Int) + (e : Int)) ∧ V = wx)
      case first =>
        go_wp2_with fail
        go_loopw [6, 7] (fun ev iv w2 => ∃ k : Nat, k ≤ m ∧ iv = .int .i64 ((f : Int) + (k : Int) - 2) ∧ ev = .int .i64 ((f : Int) + (remark line (k - 1) : Int)) ∧ w2 = V) (fun _ iv _ => (intOf iv + 3).toNat)
        case atStart => exact ⟨m, by omega, rfl, by rw [remark_last (by have := LL.out; omega), LL.out], rfl⟩
        case round =>
          obtain ⟨k, hk, rfl, rfl, rfl⟩ := hrel
          have k0 : (0 : Int) ≤ (k : Int) := by omega
          have k9 : (f : Int) + (k : Int) ≤ (n : Int) := by omega
          by_cases c2 : 2 ≤ k
          · obtain ⟨p, rfl⟩ : ∃ p, k = p + 2 := ⟨k - 2, by omega⟩
            have e1 : ((p + 2 : Nat) : Int) = (p : Int) + 2 := by omega
            have e2 : (f : Int) + ((p : Int) + 2) - 2 = (f : Int) + (p : Int) := by omega
            have p0 : (0 : Int) ≤ (p : Int) := by omega
            have p9 : (f : Int) + (p : Int) + 2 ≤ (n : Int) := by omega
            have g1 : (f : Int) ≤ (f : Int) + (p : Int) := by omega
            have CT := fun w => s_cut s (f + p) (f + p + 2) (by omega) (by have := HP.out.fm; omega) w
            rw [show f + p + 2 - (f + p) = 2 by omega, show ((f + p + 2 : Nat) : Int) = (f : Int) + (p : Int) + 2 by omega, Int.natCast_add] at CT
            have O := Lib.hid (OC.out p hk)
            have RM := Lib.hid (show remark line p = if Lib.occAt line [47, 47] p = true then p else remark line (p + 1) from remark_at (by have := LL.out; omega))
            obtain ⟨q, hq⟩ : ∃ q, q = (s.drop (f + p)).take 2 := ⟨_, rfl⟩
            rw [← hq] at CT O
            have KP := Lib.hid hk
            obtain ⟨r1, hr1⟩ : ∃ r, r = remark line (p + 1) := ⟨_, rfl⟩
            rw [show p + 2 - 1 = p + 1 by omega]
            rw [← hr1] at RM ⊢
            rw [e1, e2]
            clear hq hk c2 hr1 k0 k9 e1 e2
            by_cases co : q = [47, 47]
            · subst co
              have RX := Lib.hid (show remark line p = p by rw [RM.out, O.out]; rfl)
              have QE : ((strL [47, 47]).toList == [47, 47]) = true := by simp [strL, ByteArray.toList_eq]
              clear O RM
              go_wp2_with fail
              go_roundw
              case rel => exact ⟨p + 1, by have := KP.out; omega, by go_num, by rw [show p + 1 - 1 = p by omega, RX.out], trivial⟩
              case measure => simp [intOf]; omega
            · have RX := Lib.hid (show remark line p = r1 by rw [RM.out, O.out, if_neg (by simpa using co)])
              have QE : ((strL q).toList == [47, 47]) = false := by
                rw [beq_eq_false_iff_ne]; intro h; exact co (by simpa [strL, ByteArray.toList_eq] using h)
              clear O RM co
              go_wp2_with fail
              go_roundw
              case rel => exact ⟨p + 1, by have := KP.out; omega, by go_num, by rw [show p + 1 - 1 = p by omega, RX.out], trivial⟩
              case measure => simp [intOf]; omega
          · have g1 : ¬ (f : Int) ≤ (f : Int) + (k : Int) - 2 := by omega
            have RX := Lib.hid (show remark line (k - 1) = e by rw [HE.out, show k - 1 = 0 by omega])
            rw [RX.out]
            clear c2 hk
            go_wp2
            go_meet
            case rel => exact ⟨rfl, rfl⟩
      case rest =>
      obtain ⟨rfl, rfl⟩ := hcut
      clear OC LL HE
      apply_assumption
      go_upto_region 13 with fail
      go_cut [8] (fun v wx => v = .int .i64 (f : Int) ∧ V = wx)
      case first => go_wp2; go_meet; case rel => exact ⟨rfl, rfl⟩
      case rest =>
      obtain ⟨rfl, rfl⟩ := hcut
      apply_assumption
      first | (refine seq_k fun K3 h3 => ?_) | skip
      have e9 : (f : Int) + (e : Int) ≤ (n : Int) := by have := HP.out.em; omega
      have t9 : (f : Int) + (tw : Int) ≤ (n : Int) := by have := HP.out.te; omega
      go_cut [8] (fun v wx => v = .int .i64 ((f : Int) + (tw : Int)) ∧ V = wx)
      case first =>
        go_wp2_with fail
        go_loopw [8] (fun av w2 => ∃ j : Nat, j ≤ tw ∧ av = .int .i64 ((f : Int) + (j : Int)) ∧ w2 = V) (fun av _ => n + 1 - (intOf av).toNat)
        case atStart => exact ⟨0, by omega, by simp, rfl⟩
        case round =>
          obtain ⟨j, hj, rfl, rfl⟩ := hrel
          have j0 : (0 : Int) ≤ (j : Int) := by omega
          have j9 : (f : Int) + (j : Int) ≤ (n : Int) := by omega
          by_cases cj : j < tw
          · have hil : f + j < s.length := by have := HN.out; have := HP.out.te; have := HP.out.em; have := HP.out.fm; omega
            have g1 : (f : Int) + (j : Int) < (f : Int) + (e : Int) := by have := HP.out.te; omega
            have ix := fun w => s_idx s (f + j) hil w
            have NE := HP.out.a_in j hil cj
            rw [blank_nat] at NE
            have BL := Lib.hid (fun w => rblank_any (s[f + j]'hil).toNat w)
            rw [NE] at BL
            obtain ⟨x, hx⟩ : ∃ x, x = (s[f + j]'hil).toNat := ⟨_, rfl⟩
            rw [← hx] at ix BL
            rw [Int.natCast_add] at ix
            have CJ := Lib.hid cj
            clear hx NE hil cj hj
            go_wp2_with (go_at_call 18; refine (BL.out _).mono ?_; rintro e w9 ⟨rfl, rfl⟩)
            go_roundw
            case rel => exact ⟨j + 1, CJ.out, by go_num, trivial⟩
            case measure => have := CJ.out; have := HP.out.te; have := HP.out.em; have := HP.out.fm; have := HN.out; simp [intOf]; omega
          · obtain rfl : j = tw := by omega
            by_cases ce : j < e
            · have hil : f + j < s.length := by have := HN.out; have := HP.out.te; have := HP.out.em; have := HP.out.fm; omega
              have g1 : (f : Int) + (j : Int) < (f : Int) + (e : Int) := by omega
              have ix := fun w => s_idx s (f + j) hil w
              have NE := HP.out.a_out hil ce
              rw [blank_nat] at NE
              have BL := Lib.hid (fun w => rblank_any (s[f + j]'hil).toNat w)
              rw [NE] at BL
              obtain ⟨x, hx⟩ : ∃ x, x = (s[f + j]'hil).toNat := ⟨_, rfl⟩
              rw [← hx] at ix BL
              rw [Int.natCast_add] at ix
              clear hx NE hil cj hj ce
              go_wp2_with (go_at_call 18; refine (BL.out _).mono ?_; rintro e w9 ⟨rfl, rfl⟩)
              go_meet
              case rel => exact ⟨rfl, rfl⟩
            · have g1 : ¬ (f : Int) + (j : Int) < (f : Int) + (e : Int) := by omega
              clear cj hj ce
              go_wp2
              go_meet
              case rel => exact ⟨rfl, rfl⟩
      case rest =>
      obtain ⟨rfl, rfl⟩ := hcut
      apply_assumption
      first | (refine seq_k fun K4 h4 => ?_) | skip
      go_cut [6] (fun v wx => v = .int .i64 ((f : Int) + (tw : Int) + (rl : Int)) ∧ V = wx)
      case first =>
        go_wp2_with fail
        go_loopw [6] (fun ev w2 => ∃ x : Nat, tw + rl ≤ x ∧ x ≤ e ∧ ev = .int .i64 ((f : Int) + (x : Int)) ∧ w2 = V) (fun ev _ => (intOf ev).toNat)
        case atStart => exact ⟨e, HP.out.te, by omega, rfl, rfl⟩
        case round =>
          obtain ⟨x, hx1, hx2, rfl, rfl⟩ := hrel
          have j0 : (0 : Int) ≤ (x : Int) := by omega
          have j9 : (f : Int) + (x : Int) ≤ (n : Int) := by omega
          by_cases cx : tw + rl < x
          · have hil : f + (x - 1) < s.length := by have := HN.out; have := HP.out.em; have := HP.out.fm; omega
            have g1 : (f : Int) + (tw : Int) < (f : Int) + (x : Int) := by omega
            have ix := fun w => s_idx s (f + (x - 1)) hil w
            have NE := HP.out.e_in (x - 1) hil (by omega) (by omega)
            rw [blank_nat] at NE
            have BL := Lib.hid (fun w => rblank_any (s[f + (x - 1)]'hil).toNat w)
            rw [NE] at BL
            obtain ⟨y, hy⟩ : ∃ y, y = (s[f + (x - 1)]'hil).toNat := ⟨_, rfl⟩
            rw [← hy] at ix BL
            rw [show ((f + (x - 1) : Nat) : Int) = (f : Int) + (x : Int) - 1 by omega] at ix
            have CX := Lib.hid cx
            have HX2 := Lib.hid hx2
            have f1 : (0 : Int) ≤ (f : Int) + (x : Int) - 1 := by omega
            clear hy NE hil cx hx1 hx2
            go_wp2_with (go_at_call 18; refine (BL.out _).mono ?_; rintro e w9 ⟨rfl, rfl⟩)
            go_roundw
            case rel => exact ⟨x - 1, by have := CX.out; omega, by have := HX2.out; omega, by have := CX.out; go_num, trivial⟩
            case measure => have := CX.out; simp [intOf]; omega
          · obtain rfl : x = tw + rl := by omega
            rw [Int.natCast_add] at j9 ⊢
            rw [← Int.add_assoc] at j9 ⊢
            by_cases cr : 0 < rl
            · have hil : f + tw + rl - 1 < s.length := by have := HN.out; have := HP.out.te; have := HP.out.em; have := HP.out.fm; omega
              have g1 : (f : Int) + (tw : Int) < (f : Int) + (tw : Int) + (rl : Int) := by omega
              have ix := fun w => s_idx s (f + tw + rl - 1) hil w
              have NE := HP.out.e_out hil cr
              rw [blank_nat] at NE
              have BL := Lib.hid (fun w => rblank_any (s[f + tw + rl - 1]'hil).toNat w)
              rw [NE] at BL
              obtain ⟨y, hy⟩ : ∃ y, y = (s[f + tw + rl - 1]'hil).toNat := ⟨_, rfl⟩
              rw [← hy] at ix BL
              rw [show ((f + tw + rl - 1 : Nat) : Int) = (f : Int) + (tw : Int) + (rl : Int) - 1 by omega] at ix
              have f1 : (0 : Int) ≤ (f : Int) + (tw : Int) + (rl : Int) - 1 := by omega
              have r0 : (0 : Int) ≤ (rl : Int) := by omega
              clear hy NE hil cx hx1 hx2 cr
              go_wp2_with (go_at_call 18; refine (BL.out _).mono ?_; rintro e w9 ⟨rfl, rfl⟩)
              go_meet
              case rel => exact ⟨rfl, rfl⟩
            · obtain rfl : rl = 0 := by omega
              have g1 : ¬ (f : Int) + (tw : Int) < (f : Int) + (tw : Int) + ((0 : Nat) : Int) := by omega
              clear cx hx1 hx2 cr
              go_wp2
              go_meet
              case rel => exact ⟨rfl, rfl⟩
      case rest =>
      obtain ⟨rfl, rfl⟩ := hcut
      apply_assumption
      have RW := Lib.hid HP.out.row
      have r0 : (0 : Int) ≤ (rl : Int) := by omega
      have w0 : (0 : Int) ≤ (tw : Int) := by omega
      by_cases cr : 0 < rl
      · have g1 : (f : Int) + (tw : Int) < (f : Int) + (tw : Int) + (rl : Int) := by omega
        have g2 : (f : Int) + (tw : Int) + (rl : Int) ≤ (n : Int) := by have := HP.out.te; omega
        have CT := fun w => s_cut s (f + tw) (f + tw + rl) (by omega) (by have := HP.out.fm; have := HP.out.em; have := HP.out.te; omega) w
        rw [show f + tw + rl - (f + tw) = rl by omega] at CT
        simp only [Int.natCast_add] at CT
        obtain ⟨r, hr⟩ : ∃ r, r = (s.drop (f + tw)).take rl := ⟨_, rfl⟩
        rw [← hr] at CT
        have RX := Lib.hid (show GrL.rowAt s f = [(r, f + tw)] by rw [RW.out, if_neg (by omega), hr])
        have k2a := Lib.hid (app_two V (.string (strL r)) (.int .i64 ((f : Int) + (tw : Int))))
        have k2b := Lib.hid (show ∀ v ∈ [Value.string (strL r), .int .i64 ((f : Int) + (tw : Int))], v.oneCell' = true by simp [Value.oneCell'])
        have k2c := Lib.hid (show L.length + 1 ≤ maxLen by have := LS.out; have := HN.out; unfold maxLen; omega)
        have k2d := Lib.hid (show (L.length + 1) * 24 ≤ 140737488355328 by have := LS.out; have := HN.out; omega)
        have k2e := Lib.hid (show ∀ o : Obj, w.heap.size ≤ (V.alloc o).heap.size from fun o => by have := HB.out.size; simp; omega)
        clear hr cr RW
        go_wp2_with (at_builtin; refine wpList_append_own _ rfl (.tmp 68) (.tmp 75) 32 rfl w.heap.size 36 i0 (.agg #[.string ⟨#[]⟩, .int .i64 0]) 2 24 Tryd.underlying32 hi hz0 hz1 hz2 rfl (by decide) _ _ _ rfl (HO.out.alloc _) ⟨V.heap.size, 0, none⟩ 1 1 [.string (strL r), .int .i64 ((f : Int) + (tw : Int))] rfl rfl (k2a.out _) k2b.out k2c.out k2d.out (k2e.out _) ?_; intro v2 w2 h1 g1 _; have HB3 := Lib.hid (app_bel2 HB.out (Nat.le_refl _) HO.out g1); have H1 := Lib.hid h1; clear h1 g1)
        go_roundw
        case rel => exact ⟨f + m + 1, L ++ GrL.rowAt s f, by go_num, NX.out, by rw [RX.out, List.length_append, rowCells_snoc, Int.natCast_add]; exact H1.out, HB3.out⟩
        case measure => have := HP.out.fm; have := HN.out; simp [intOf]; omega
      · obtain rfl : rl = 0 := by omega
        have g1 : ¬ (f : Int) + (tw : Int) < (f : Int) + (tw : Int) + ((0 : Nat) : Int) := by omega
        have RX := Lib.hid (show GrL.rowAt s f = [] by rw [RW.out, if_pos rfl])
        clear cr RW
        go_wp2
        go_roundw
        case rel => exact ⟨f + m + 1, L, by go_num, by have h := NX.out; rw [RX.out, List.append_nil] at h; exact h, HO.out, HB.out⟩
        case measure => have := HP.out.fm; have := HN.out; simp [intOf]; omega
    · have g1 : ¬ (f : Int) ≤ (n : Int) := by omega
      have E := Lib.hid (HR.out.done (by have := HN.out; omega))
      clear cf
      go_wp2
      go_ret
      exact ⟨_, rfl, by rw [E.out]; exact HO.out, HB.out⟩
end Go.Proofs.YtagbhhfflgikkaaDoor
