/-
  Layer 10, the walks: Check, the code's and the page's.
-/
import Derived.Test.YtlpejfoeiaogcaaGreatDoorEc
set_option linter.unusedSimpArgs false
set_option linter.unusedVariables false
namespace GrL
open Go GrP
def okN (n : Nat) : Bool := decide (n = 10) || blankN n || (decide (32 ≤ n) && decide (n ≤ 126))
theorem ok_nat (c : UInt8) : okB c = okN c.toNat := by
  unfold okB
  rw [beq_nat c 10, blank_nat]
  rfl
theorem ok_cases (n : Nat) : (n = 10 ∧ okN n = true) ∨ ((n ≠ 10 ∧ blankN n = true) ∧ okN n = true) ∨ ((n ≠ 10 ∧ blankN n = false ∧ n < 32) ∧ okN n = false) ∨ ((n ≠ 10 ∧ blankN n = false ∧ 32 ≤ n ∧ n ≤ 126) ∧ okN n = true) ∨ ((n ≠ 10 ∧ blankN n = false ∧ 32 ≤ n ∧ 126 < n) ∧ okN n = false) := by
  by_cases a : n = 10
  · exact .inl ⟨a, by simp [okN, a]⟩
  · cases b : blankN n with
    | true => exact .inr (.inl ⟨⟨a, rfl⟩, by simp [okN, b]⟩)
    | false =>
      by_cases c : n < 32
      · exact .inr (.inr (.inl ⟨⟨a, rfl, c⟩, by simp [okN, a, b]; omega⟩))
      · by_cases d : n ≤ 126
        · exact .inr (.inr (.inr (.inl ⟨⟨a, rfl, by omega, d⟩, by simp [okN, d]; omega⟩)))
        · exact .inr (.inr (.inr (.inr ⟨⟨a, rfl, by omega, by omega⟩, by simp [okN, a, b, d]⟩)))
theorem bad_is {l : Tx} {i : Nat} (hi : i ≤ l.length) (h1 : ∀ j (h : j < l.length), j < i → okB l[j] = true) (h2 : ∀ h : i < l.length, okB l[i] = false) : bad l = i := tw_at hi h1 h2
end GrL
namespace Go.Proofs.YtlpejfoeiaogcaaGreatDoor
open Go.RowKit GrP GrL

set_option maxRecDepth 100000 in
set_option maxHeartbeats 3200000 in
theorem rcheck_any (l : Tx) (w : World) : Calls Tryz.prog 5 #[.string (strL l)] w fun e w' => e = .returned (.tuple #[.int .i64 (((checkL l).1 : Nat) : Int), .int .i64 (((checkL l).2 : Nat) : Int)]) ∧ w = w' := by
  obtain ⟨n, hn⟩ : ∃ n, n = l.length := ⟨_, rfl⟩
  have hsz : (strL l).size = n := by rw [strL_size, hn]
  have HN := Lib.hid hn
  have n0 : (0 : Int) ≤ (n : Int) := by omega
  by_cases hg : 16384 < n
  · have E := Lib.hid (show checkL l = (2, 0) by rw [checkL, if_pos (by omega)])
    have g1 : (16384 : Int) < (n : Int) := by omega
    clear hn hg
    go_enter Tryz.func5, Tryz.ntmps5
    go_wp2
    refine bodyPost_ret (v := .tuple #[.int .i64 2, .int .i64 0]) (by simp [results, Tryz.results5, go_sem, *]) rfl ⟨by rw [E.out]; rfl, rfl⟩
  · have g1 : ¬ (16384 : Int) < (n : Int) := by omega
    have HG := Lib.hid hg
    clear hn hg
    go_enter Tryz.func5, Tryz.ntmps5
    go_wp2_with fail
    go_loopw [4] (fun iv wr => ∃ i : Nat, i ≤ n ∧ iv = .int .i64 (i : Int) ∧ (∀ j (h : j < l.length), j < i → okB l[j] = true) ∧ w = wr) (fun iv _ => n - (intOf iv).toNat)
    case atStart => exact ⟨0, by omega, rfl, fun j h h2 => by omega, rfl⟩
    case round =>
      obtain ⟨i, hi, rfl, hall, rfl⟩ := hrel
      have HA := Lib.hid hall
      have i0 : (0 : Int) ≤ (i : Int) := by omega
      by_cases c : i < n
      · have c1 : (i : Int) < (n : Int) := by omega
        have hil : i < l.length := by have := HN.out; omega
        have i9 : (i : Int) ≤ 16384 := by have := HG.out; omega
        have HI := Lib.hid (show i + 1 ≤ n by omega)
        have hix := fun w => s_idx l i hil w
        have BL := Lib.hid (fun w => rblank_any l[i].toNat w)
        have OK := Lib.hid (show ∀ h : i < l.length, okB (l[i]'h) = okN (l[i]'h).toNat from fun h => ok_nat _)
        have hw := ok_cases l[i].toNat
        obtain ⟨x, hx⟩ : ∃ x, x = l[i].toNat := ⟨_, rfl⟩
        have OK := Lib.hid (show ∀ h : i < l.length, okB (l[i]'h) = okN x from fun h => by rw [hx]; exact OK.out h)
        rw [← hx] at BL hix hw
        clear hx hil c hi hall
        rcases hw with ⟨h1, ho⟩ | ⟨⟨ha, hb⟩, ho⟩ | ⟨⟨ha, hb, hc⟩, ho⟩ | ⟨⟨ha, hb, hc, hd⟩, ho⟩ | ⟨⟨ha, hb, hc, hd⟩, ho⟩
        · have OX := Lib.hid (show ∀ h : i < l.length, okB (l[i]'h) = true from fun h => (OK.out h).trans ho)
          subst h1
          clear ho OK
          go_wp2_with (go_at_call 7; refine (BL.out _).mono ?_; rintro e w9 ⟨rfl, rfl⟩)
          go_roundw
          case rel => exact ⟨i + 1, HI.out, by go_num, fun j hj h2 => by
            by_cases e : j = i
            · subst e; exact OX.out hj
            · exact HA.out j hj (by omega), trivial⟩
          case measure => have := HI.out; simp [intOf] <;> omega
        · have OX := Lib.hid (show ∀ h : i < l.length, okB (l[i]'h) = true from fun h => (OK.out h).trans ho)
          have e1 : ¬ (x : Int) = 10 := by omega
          have e2 : ((x : Int) == 10) = false := by simp; omega
          have e3 : ((x : Int) != 10) = true := by simp; omega
          rw [hb] at BL
          clear ho OK hb ha
          go_wp2_with (go_at_call 7; refine (BL.out _).mono ?_; rintro e w9 ⟨rfl, rfl⟩)
          go_roundw
          case rel => exact ⟨i + 1, HI.out, by go_num, fun j hj h2 => by
            by_cases e : j = i
            · subst e; exact OX.out hj
            · exact HA.out j hj (by omega), trivial⟩
          case measure => have := HI.out; simp [intOf] <;> omega
        · have OX := Lib.hid (show ∀ h : i < l.length, okB (l[i]'h) = false from fun h => (OK.out h).trans ho)
          have e1 : ¬ (x : Int) = 10 := by omega
          have e2 : ((x : Int) == 10) = false := by simp; omega
          have e3 : ((x : Int) != 10) = true := by simp; omega
          rw [hb] at BL
          have f1 : (x : Int) < 32 := by omega
          have E := Lib.hid (show checkL l = (100, i) by rw [checkL, if_neg (by have := HG.out; have := HN.out; omega), bad_is (by have := HI.out; have := HN.out; omega) HA.out OX.out, if_pos (by have := HI.out; have := HN.out; omega)])
          clear ho OK hb ha hc
          go_wp2_with (go_at_call 7; refine (BL.out _).mono ?_; rintro e w9 ⟨rfl, rfl⟩)
          refine bodyPost_ret (v := .tuple #[.int .i64 100, .int .i64 (i : Int)]) (by simp [results, Tryz.results5, go_sem, *]) rfl ⟨by rw [E.out]; rfl, rfl⟩
        · have OX := Lib.hid (show ∀ h : i < l.length, okB (l[i]'h) = true from fun h => (OK.out h).trans ho)
          have e1 : ¬ (x : Int) = 10 := by omega
          have e2 : ((x : Int) == 10) = false := by simp; omega
          have e3 : ((x : Int) != 10) = true := by simp; omega
          rw [hb] at BL
          have f1 : ¬ (x : Int) < 32 := by omega
          have f2 : ¬ (126 : Int) < (x : Int) := by omega
          clear ho OK hb ha hc hd
          go_wp2_with (go_at_call 7; refine (BL.out _).mono ?_; rintro e w9 ⟨rfl, rfl⟩)
          go_roundw
          case rel => exact ⟨i + 1, HI.out, by go_num, fun j hj h2 => by
            by_cases e : j = i
            · subst e; exact OX.out hj
            · exact HA.out j hj (by omega), trivial⟩
          case measure => have := HI.out; simp [intOf] <;> omega
        · have OX := Lib.hid (show ∀ h : i < l.length, okB (l[i]'h) = false from fun h => (OK.out h).trans ho)
          have e1 : ¬ (x : Int) = 10 := by omega
          have e2 : ((x : Int) == 10) = false := by simp; omega
          have e3 : ((x : Int) != 10) = true := by simp; omega
          rw [hb] at BL
          have f1 : ¬ (x : Int) < 32 := by omega
          have f2 : (126 : Int) < (x : Int) := by omega
          have E := Lib.hid (show checkL l = (100, i) by rw [checkL, if_neg (by have := HG.out; have := HN.out; omega), bad_is (by have := HI.out; have := HN.out; omega) HA.out OX.out, if_pos (by have := HI.out; have := HN.out; omega)])
          clear ho OK hb ha hc hd
          go_wp2_with (go_at_call 7; refine (BL.out _).mono ?_; rintro e w9 ⟨rfl, rfl⟩)
          refine bodyPost_ret (v := .tuple #[.int .i64 100, .int .i64 (i : Int)]) (by simp [results, Tryz.results5, go_sem, *]) rfl ⟨by rw [E.out]; rfl, rfl⟩
      · have c1 : ¬ (i : Int) < (n : Int) := by omega
        have E := Lib.hid (show checkL l = (0, 0) by rw [checkL, if_neg (by have := HG.out; have := HN.out; omega), bad_is (i := i) (by have := HN.out; omega) HA.out (fun h => by have := HN.out; omega), if_neg (by have := HN.out; omega)])
        clear hi c hall
        go_wp2
        refine bodyPost_ret (v := .tuple #[.int .i64 0, .int .i64 0]) (by simp [results, Tryz.results5, go_sem, *]) rfl ⟨by rw [E.out]; rfl, rfl⟩

set_option maxRecDepth 100000 in
set_option maxHeartbeats 3200000 in
theorem lcheck_any (l : Tx) (w : World) : Calls Tryz.prog 8 #[.string (strL l)] w fun e w' => e = .returned (.agg #[.int .i64 (((checkL l).1 : Nat) : Int), .int .i64 (((checkL l).2 : Nat) : Int)]) ∧ Below w.heap.size w w' := by
  obtain ⟨n, hn⟩ : ∃ n, n = l.length := ⟨_, rfl⟩
  have hsz : (strL l).size = n := by rw [strL_size, hn]
  have HN := Lib.hid hn
  have n0 : (0 : Int) ≤ (n : Int) := by omega
  by_cases hg : 16384 < n
  · have E := Lib.hid (show checkL l = (2, 0) by rw [checkL, if_pos (by omega)])
    have g1 : (16384 : Int) < (n : Int) := by omega
    clear hn hg
    go_enter Tryz.func8, Tryz.ntmps8
    go_upto_region 1 with fail
    refine to_cls ?_
    intro U0 hU0 y0
    have r_p : ∀ z : Wb U0, Row z.at w.heap.size [.int .i64 0, .int .i64 0] 42 := Row.next (Row.new _ [.int .i64 0, .int .i64 0] _) hU0
    have KK := Lib.hid (KB.next (KB.alloc (Below.refl w.heap.size w) _) hU0)
    clear hU0
    have c_0 := fun z : Wb U0 => (r_p z).cell 0
    have c_1 := fun z : Wb U0 => (r_p z).cell 1
    have c_f := fun (z : Wb U0) (i : Nat) => (r_p z).free i
    simp only [List.getElem?_cons_zero, List.getElem?_cons_succ] at c_0 c_1
    clear r_p
    obtain ⟨pA, hpA⟩ : ∃ b, b = w.heap.size := ⟨_, rfl⟩
    have PA := Lib.hid (show w.heap.size ≤ pA by omega)
    rw [← hpA] at c_0 c_1 c_f
    simp only [← hpA]
    clear hpA
    go_wp2
    refine bodyPost_ret (v := .agg #[.int .i64 2, .int .i64 0]) (by simp [results, Tryz.results8, go_sem, *]) rfl ⟨by rw [E.out]; rfl, ?_⟩
    repeat' (first | (with_reducible exact KK.out y0) | (with_reducible refine Below.setCell ?_ ?_ _) | (with_reducible exact PA.out))
  · have g1 : ¬ (16384 : Int) < (n : Int) := by omega
    have HG := Lib.hid hg
    clear hn hg
    go_enter Tryz.func8, Tryz.ntmps8
    go_upto_region 1 with fail
    refine to_cls ?_
    intro U0 hU0 y0
    have r_p : ∀ z : Wb U0, Row z.at w.heap.size [.int .i64 0, .int .i64 0] 42 := Row.next (Row.new _ [.int .i64 0, .int .i64 0] _) hU0
    have KK := Lib.hid (KB.next (KB.alloc (Below.refl w.heap.size w) _) hU0)
    clear hU0
    have c_0 := fun z : Wb U0 => (r_p z).cell 0
    have c_1 := fun z : Wb U0 => (r_p z).cell 1
    have c_f := fun (z : Wb U0) (i : Nat) => (r_p z).free i
    simp only [List.getElem?_cons_zero, List.getElem?_cons_succ] at c_0 c_1
    clear r_p
    obtain ⟨pA, hpA⟩ : ∃ b, b = w.heap.size := ⟨_, rfl⟩
    have PA := Lib.hid (show w.heap.size ≤ pA by omega)
    rw [← hpA] at c_0 c_1 c_f
    simp only [← hpA]
    clear hpA
    go_wp2_with fail
    go_loopw [11] (fun iv wr => ∃ i : Nat, i ≤ n ∧ iv = .int .i64 (i : Int) ∧ (∀ j (h : j < l.length), j < i → okB l[j] = true) ∧ y0.at = wr) (fun iv _ => n - (intOf iv).toNat)
    case atStart => exact ⟨0, by omega, rfl, fun j h h2 => by omega, rfl⟩
    case round =>
      obtain ⟨i, hi, rfl, hall, rfl⟩ := hrel
      have HA := Lib.hid hall
      have i0 : (0 : Int) ≤ (i : Int) := by omega
      by_cases c : i < n
      · have c1 : (i : Int) < (n : Int) := by omega
        have hil : i < l.length := by have := HN.out; omega
        have i9 : (i : Int) ≤ 16384 := by have := HG.out; omega
        have HI := Lib.hid (show i + 1 ≤ n by omega)
        have hix := fun w => s_idx l i hil w
        have BL := Lib.hid (fun w => lblank_any l[i].toNat w)
        have OK := Lib.hid (show ∀ h : i < l.length, okB (l[i]'h) = okN (l[i]'h).toNat from fun h => ok_nat _)
        have hw := ok_cases l[i].toNat
        obtain ⟨x, hx⟩ : ∃ x, x = l[i].toNat := ⟨_, rfl⟩
        have OK := Lib.hid (show ∀ h : i < l.length, okB (l[i]'h) = okN x from fun h => by rw [hx]; exact OK.out h)
        rw [← hx] at BL hix hw
        clear hx hil c hi hall
        rcases hw with ⟨h1, ho⟩ | ⟨⟨ha, hb⟩, ho⟩ | ⟨⟨ha, hb, hc⟩, ho⟩ | ⟨⟨ha, hb, hc, hd⟩, ho⟩ | ⟨⟨ha, hb, hc, hd⟩, ho⟩
        · have OX := Lib.hid (show ∀ h : i < l.length, okB (l[i]'h) = true from fun h => (OK.out h).trans ho)
          subst h1
          clear ho OK
          go_wp2_with (go_at_call 11; refine (BL.out _).mono ?_; rintro e w9 ⟨rfl, rfl⟩)
          go_roundw
          case rel => exact ⟨i + 1, HI.out, by go_num, fun j hj h2 => by
            by_cases e : j = i
            · subst e; exact OX.out hj
            · exact HA.out j hj (by omega), trivial⟩
          case measure => have := HI.out; simp [intOf] <;> omega
        · have OX := Lib.hid (show ∀ h : i < l.length, okB (l[i]'h) = true from fun h => (OK.out h).trans ho)
          have e1 : ¬ (x : Int) = 10 := by omega
          have e2 : ((x : Int) == 10) = false := by simp; omega
          have e3 : ((x : Int) != 10) = true := by simp; omega
          rw [hb] at BL
          clear ho OK hb ha
          go_wp2_with (go_at_call 11; refine (BL.out _).mono ?_; rintro e w9 ⟨rfl, rfl⟩)
          go_roundw
          case rel => exact ⟨i + 1, HI.out, by go_num, fun j hj h2 => by
            by_cases e : j = i
            · subst e; exact OX.out hj
            · exact HA.out j hj (by omega), trivial⟩
          case measure => have := HI.out; simp [intOf] <;> omega
        · have OX := Lib.hid (show ∀ h : i < l.length, okB (l[i]'h) = false from fun h => (OK.out h).trans ho)
          have e1 : ¬ (x : Int) = 10 := by omega
          have e2 : ((x : Int) == 10) = false := by simp; omega
          have e3 : ((x : Int) != 10) = true := by simp; omega
          rw [hb] at BL
          have f1 : (x : Int) < 32 := by omega
          have E := Lib.hid (show checkL l = (100, i) by rw [checkL, if_neg (by have := HG.out; have := HN.out; omega), bad_is (by have := HI.out; have := HN.out; omega) HA.out OX.out, if_pos (by have := HI.out; have := HN.out; omega)])
          clear ho OK hb ha hc
          go_wp2_with (go_at_call 11; refine (BL.out _).mono ?_; rintro e w9 ⟨rfl, rfl⟩)
          refine bodyPost_ret (v := .agg #[.int .i64 100, .int .i64 (i : Int)]) (by simp [results, Tryz.results8, go_sem, *]) rfl ⟨by rw [E.out]; rfl, ?_⟩
          repeat' (first | (with_reducible exact KK.out y0) | (with_reducible refine Below.setCell ?_ ?_ _) | (with_reducible exact PA.out))
        · have OX := Lib.hid (show ∀ h : i < l.length, okB (l[i]'h) = true from fun h => (OK.out h).trans ho)
          have e1 : ¬ (x : Int) = 10 := by omega
          have e2 : ((x : Int) == 10) = false := by simp; omega
          have e3 : ((x : Int) != 10) = true := by simp; omega
          rw [hb] at BL
          have f1 : ¬ (x : Int) < 32 := by omega
          have f2 : ¬ (126 : Int) < (x : Int) := by omega
          clear ho OK hb ha hc hd
          go_wp2_with (go_at_call 11; refine (BL.out _).mono ?_; rintro e w9 ⟨rfl, rfl⟩)
          go_roundw
          case rel => exact ⟨i + 1, HI.out, by go_num, fun j hj h2 => by
            by_cases e : j = i
            · subst e; exact OX.out hj
            · exact HA.out j hj (by omega), trivial⟩
          case measure => have := HI.out; simp [intOf] <;> omega
        · have OX := Lib.hid (show ∀ h : i < l.length, okB (l[i]'h) = false from fun h => (OK.out h).trans ho)
          have e1 : ¬ (x : Int) = 10 := by omega
          have e2 : ((x : Int) == 10) = false := by simp; omega
          have e3 : ((x : Int) != 10) = true := by simp; omega
          rw [hb] at BL
          have f1 : ¬ (x : Int) < 32 := by omega
          have f2 : (126 : Int) < (x : Int) := by omega
          have E := Lib.hid (show checkL l = (100, i) by rw [checkL, if_neg (by have := HG.out; have := HN.out; omega), bad_is (by have := HI.out; have := HN.out; omega) HA.out OX.out, if_pos (by have := HI.out; have := HN.out; omega)])
          clear ho OK hb ha hc hd
          go_wp2_with (go_at_call 11; refine (BL.out _).mono ?_; rintro e w9 ⟨rfl, rfl⟩)
          refine bodyPost_ret (v := .agg #[.int .i64 100, .int .i64 (i : Int)]) (by simp [results, Tryz.results8, go_sem, *]) rfl ⟨by rw [E.out]; rfl, ?_⟩
          repeat' (first | (with_reducible exact KK.out y0) | (with_reducible refine Below.setCell ?_ ?_ _) | (with_reducible exact PA.out))
      · have c1 : ¬ (i : Int) < (n : Int) := by omega
        have E := Lib.hid (show checkL l = (0, 0) by rw [checkL, if_neg (by have := HG.out; have := HN.out; omega), bad_is (i := i) (by have := HN.out; omega) HA.out (fun h => by have := HN.out; omega), if_neg (by have := HN.out; omega)])
        clear hi c hall
        go_wp2
        refine bodyPost_ret (v := .agg #[.int .i64 0, .int .i64 0]) (by simp [results, Tryz.results8, go_sem, *]) rfl ⟨by rw [E.out]; rfl, ?_⟩
        repeat' (first | (with_reducible exact KK.out y0) | (with_reducible refine Below.setCell ?_ ?_ _) | (with_reducible exact PA.out))
end Go.Proofs.YtlpejfoeiaogcaaGreatDoor
