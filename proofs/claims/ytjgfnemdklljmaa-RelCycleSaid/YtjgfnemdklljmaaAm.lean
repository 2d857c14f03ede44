/-
  Layer 1, the walks: the page's Of; a law's is, both.
-/
import Derived.Test.YtjgfnemdklljmaaAl
set_option linter.unusedSimpArgs false
set_option linter.unusedVariables false
namespace Go.Proofs.Ytjgfnemdklljmaa
open Go.RowKit GrR

def ROfPost (n : Nat) (P : List Pr) (w : World) (e : Ending) (w' : World) : Prop :=
  Below w.heap.size w w' ∧ if okP n P = true then e = .returned (.tuple #[.slice (some ⟨w.heap.size, 0, none⟩) n n, .int .i64 0]) ∧ TabAt w' w.heap.size n (ofM P) else e = .returned (.tuple #[.slice none 0 0, .int .i64 1])
theorem rof_no (n : Int) (v : Value) (w : World) (hn : n < 0 ∨ 128 < n) :
    Calls Try.prog 15 #[.int .i64 n, v] w fun e w' => e = .returned (.tuple #[.slice none 0 0, .int .i64 10]) ∧ w = w' := by
  by_cases c : n < 0
  · have c1 : decide (n < 0) = true := by simpa using c
    clear hn
    go_enter Try.func15, Try.ntmps15
    go_wp2
    exact bodyPost_ret (v := .tuple #[.slice none 0 0, .int .i64 10]) (by simp [results, Try.results15, go_sem]) rfl ⟨rfl, rfl⟩
  · have c1 : decide (n < 0) = false := by simpa using c
    have c2 : decide (n > 128) = true := by simp; omega
    clear hn
    go_enter Try.func15, Try.ntmps15
    go_wp2
    exact bodyPost_ret (v := .tuple #[.slice none 0 0, .int .i64 10]) (by simp [results, Try.results15, go_sem]) rfl ⟨rfl, rfl⟩

set_option maxRecDepth 100000 in
set_option maxHeartbeats 6400000 in
theorem rof_any (n : Nat) (v : Value) (P : List Pr) (w : World) (hn : n ≤ 128) (h : SlP w v P) :
    Calls Try.prog 15 #[.int .i64 (n : Int), v] w (ROfPost n P w) := by
  obtain ⟨p, m, c, rfl⟩ := SlAt.form h
  have EM := Lib.hid (empty_any n w (by omega))
  have E := Lib.hid h.len
  have H := Lib.hid h
  have MX := h.most
  have HN := Lib.hid hn
  have c1 : decide ((n : Int) < 0) = false := by simp
  have c2 : decide ((n : Int) > 128) = false := by simp; omega
  clear h hn
  go_enter Try.func15, Try.ntmps15
  go_wp2_with fail
  refine EM.out.mono ?_
  rintro e w1 ⟨rfl, g1, g2⟩
  have G1 := Lib.hid g1
  have G2 := Lib.hid g2
  clear g1 g2 EM c1 c2
  go_wp2_with fail
  go_loopw [7] (fun i wr => ∃ k : Nat, k ≤ m ∧ i = .int .i64 (k : Int) ∧ okP n (P.take k) = true ∧ TabAt wr w.heap.size n (ofM (P.take k)) ∧ Below w.heap.size w wr) (fun i _ => m - (intOf i).toNat)
  case atStart => exact ⟨0, by omega, rfl, rfl, G1.out, G2.out⟩
  case round =>
    clear G1 G2
    obtain ⟨k, hk, rfl, ho, hr, hb⟩ := hrel
    have HO := Lib.hid ho
    have HR := Lib.hid hr
    have HB := Lib.hid hb
    clear ho hr hb
    by_cases ck : k < m
    · have lk : k < P.length := by have := E.out; omega
      obtain ⟨a, rfl⟩ := SlP.addr H.out (by omega)
      have AT := Lib.hid (fun (U : World) (q : Below w.heap.size w U) => (H.out.below q).at k lk)
      have OS := Lib.hid (fun h1 h2 i j => ofM_succ (n := n) lk h1 h2 i j)
      have PS := Lib.hid (okP_succ (n := n) lk)
      obtain ⟨⟨u, v⟩, hu⟩ : ∃ x, x = P[k] := ⟨_, rfl⟩
      rw [← hu] at AT OS PS
      clear hu lk
      have k1 : (k : Int) < (m : Int) := by omega
      have k0 : (0 : Int) ≤ (k : Int) := by omega
      have x0 : ∀ z : Wb wr, z.at.cell? (a.add (k * 2)) = some (.int .i64 u) := fun z => (AT.out _ (KB.at HB.out z)).1
      have x1 : ∀ z : Wb wr, z.at.cell? ⟨(a.add (k * 2)).block, (a.add (k * 2)).off + 1, none⟩ = some (.int .i64 v) := fun z => (AT.out _ (KB.at HB.out z)).2
      go_wp2_with fail
      refine wp_region_wb (by kernel_rfl) (by kernel_rfl) ?_
      repeat (go_big_quiet_step (fail))
      refine wpQuiet_nil ?_
      rintro _ ⟨z, rfl⟩
      clear x0 x1
      have KK := Lib.hid (KB.at HB.out z)
      have R2 := Lib.hid (HR.out.below z.bel)
      by_cases c1 : (thingB n u && thingB n v) = true
      · have c2 := c1
        simp only [Bool.and_eq_true, thingB, decide_eq_true_eq] at c2
        obtain ⟨⟨u0, u1⟩, v0, v1⟩ := c2
        have O3 := Lib.hid (show okP n (P.take (k + 1)) = true by rw [PS.out, HO.out, c1]; rfl)
        simp only [Bool.and_eq_true] at c1
        have OS2 := Lib.hid (OS.out c1.1 c1.2)
        obtain ⟨x, rfl⟩ := Int.eq_ofNat_of_zero_le u0
        obtain ⟨y, rfl⟩ := Int.eq_ofNat_of_zero_le v0
        have d1 : decide ((x : Int) < 0) = false := by simp
        have d2 : decide ((y : Int) < 0) = false := by simp
        have d3 : decide ((x : Int) ≥ (n : Int)) = false := by simp; omega
        have d4 : decide ((y : Int) ≥ (n : Int)) = false := by simp; omega
        have a0 := R2.out.row x (by omega) z.at (Below.refl _ _)
        have a1 := R2.out.bit x y (by omega) (by omega) z.at (Below.refl _ _)
        have a2 := R2.out.free x (by omega) z.at (Below.refl _ _) y
        have R3 := Lib.hid ((R2.out.put (a := x) y true (by omega)).eqT (U := ofM (P.take (k + 1))) (fun i j _ _ => by
          rw [← OS2.out i j]
          unfold putM addM
          simp only [Int.toNat_natCast]
          by_cases e1 : i = x
          · by_cases e2 : j = y
            · simp [e1, e2]
            · simp [e1, e2]
          · simp [e1]))
        have B3 := Lib.hid (KB.put KK.out (show w.heap.size ≤ w.heap.size + 1 + x by omega) y (.bool true))
        have n9 : (n : Int) ≤ 128 := by have := HN.out; omega
        clear c1
        go_wp2_with fail
        clear a0 a1 a2 d1 d2 d3 d4
        go_roundw
        case rel => exact ⟨k + 1, by omega, by go_num, O3.out, R3.out, B3.out⟩
        case measure => simp [intOf]; omega
      · have BD := Lib.hid (show okP n P = false from okP_take (k := k + 1) (by rw [PS.out, Bool.eq_false_iff.2 c1]; simp))
        have c2 := c1
        simp only [Bool.and_eq_true, thingB, decide_eq_true_eq] at c2
        by_cases d1' : u < 0
        · have d1 : decide (u < 0) = true := by simpa using d1'
          clear c1 c2
          go_wp2
          exact bodyPost_ret (v := .tuple #[.slice none 0 0, .int .i64 1]) (by simp [results, Try.results15, go_sem]) rfl ⟨KK.out, by rw [if_neg (by rw [BD.out]; simp)]⟩
        · have d1 : decide (u < 0) = false := by simpa using d1'
          by_cases d2' : v < 0
          · have d2 : decide (v < 0) = true := by simpa using d2'
            clear c1 c2
            go_wp2
            exact bodyPost_ret (v := .tuple #[.slice none 0 0, .int .i64 1]) (by simp [results, Try.results15, go_sem]) rfl ⟨KK.out, by rw [if_neg (by rw [BD.out]; simp)]⟩
          · have d2 : decide (v < 0) = false := by simpa using d2'
            by_cases d3' : u ≥ (n : Int)
            · have d3 : decide (u ≥ (n : Int)) = true := by simpa using d3'
              clear c1 c2
              go_wp2
              exact bodyPost_ret (v := .tuple #[.slice none 0 0, .int .i64 1]) (by simp [results, Try.results15, go_sem]) rfl ⟨KK.out, by rw [if_neg (by rw [BD.out]; simp)]⟩
            · have d3 : decide (u ≥ (n : Int)) = false := by simp; omega
              have d4 : decide (v ≥ (n : Int)) = true := by simp; omega
              clear c1 c2
              go_wp2
              exact bodyPost_ret (v := .tuple #[.slice none 0 0, .int .i64 1]) (by simp [results, Try.results15, go_sem]) rfl ⟨KK.out, by rw [if_neg (by rw [BD.out]; simp)]⟩
    · obtain rfl : k = m := by omega
      have TK := Lib.hid (show P.take k = P from List.take_of_length_le (by have := E.out; omega))
      have O4 := Lib.hid (show okP n P = true by rw [← TK.out]; exact HO.out)
      have R4 := Lib.hid (show TabAt wr w.heap.size n (ofM P) by have := HR.out; rwa [TK.out] at this)
      go_wp2
      exact bodyPost_ret (v := .tuple #[.slice (some ⟨w.heap.size, 0, none⟩) n n, .int .i64 0]) (by simp [results, Try.results15, go_sem]) rfl ⟨HB.out, by rw [if_pos O4.out]; exact ⟨rfl, R4.out⟩⟩

theorem run_neq_pair (p q r s : Int) (w : World) : (binOp .neq 37 (.agg #[.int .i64 p, .int .i64 q]) (.agg #[.int .i64 r, .int .i64 s])).run Try.prog w = .ok (.bool (decide (¬(p = r ∧ q = s)))) w := by
  obtain ⟨i, hi⟩ : ∃ i, Try.prog.info? 3 = some i := by
    cases c : Try.prog.info? 3 with
    | some i => exact ⟨i, rfl⟩
    | none => exact absurd c (by decide +kernel)
  exact run_neq_arr2 Try.underlying37 Try.underlying3 hi (by kernel_rfl) (by kernel_rfl) p q r s w

set_option maxRecDepth 100000 in
set_option maxHeartbeats 6400000 in
theorem is_any (B O n : Nat) (T : Mx) (w : World) (hB : RelAt w B n T) (hO : TabAt w O n T) :
    Calls Try.prog 21 #[.pointer (some ⟨B, 0, none⟩), .slice (some ⟨O, 0, none⟩) n n] w fun e w' => e = .returned (.bool true) ∧ Below w.heap.size w w' := by
  have HB := Lib.hid hB
  have HO := Lib.hid hO
  have SZ := Lib.hid (size_any B n T w hB)
  have PA := Lib.hid (pairs_any B n T w hB)
  have HN := Lib.hid hB.most
  have CM := Lib.hid (pairs_len n T)
  have LM := Lib.hid (show cntM n T ≤ 16384 from Nat.le_trans (cntM_le n T) (Nat.mul_le_mul hB.most hB.most))
  have cn : ((n : Int) != (n : Int)) = false := by simp
  clear hB hO
  go_enter Try.func21, Try.ntmps21
  go_wp2_with fail
  refine SZ.out.mono ?_
  rintro e w1 ⟨rfl, rfl⟩
  go_wp2_with fail
  refine PA.out.mono ?_
  rintro e w1 ⟨v1, rfl, h1, h2⟩
  have S1 := Lib.hid h1
  have B1 := Lib.hid h2
  clear h1 h2 PA SZ
  go_wp2_with fail
  refine (rpairs_any O n T w1 HN.out (HO.out.below B1.out)).mono ?_
  rintro e w2 ⟨v2, rfl, h1, h2⟩
  obtain ⟨p1, m1, c1, rfl⟩ := SlAt.form S1.out
  obtain ⟨p2, m2, c2, rfl⟩ := SlAt.form h1
  have e1 := S1.out.len
  have e2 := h1.len
  have S2 := Lib.hid h1
  have S3 := Lib.hid (S1.out.below h2)
  have B2 := Lib.hid (B1.out.trans (h2.mono B1.out.size))
  have B3 := Lib.hid h2
  clear h1 h2
  have CB := Lib.hid (count_any B n T w2 (HB.out.below B2.out))
  obtain ⟨L, hL⟩ : ∃ L, L = pairsK n T n := ⟨_, rfl⟩
  rw [← hL] at e1 e2 S2 S3 CM
  obtain ⟨C, hC⟩ : ∃ C, C = cntM n T := ⟨_, rfl⟩
  rw [← hC] at CM CB LM
  clear hC hL S1
  obtain rfl : m1 = C := by have := CM.out; omega
  obtain rfl : m2 = m1 := by have := CM.out; omega
  have cm : ((m2 : Int) != (m2 : Int)) = false := by simp
  have E := Lib.hid e2
  clear e1 e2 cn
  go_wp2_with fail
  refine CB.out.mono ?_
  rintro e w3 ⟨rfl, rfl⟩
  go_wp2_with fail
  go_loopw [7] (fun i wr => ∃ k : Nat, k ≤ m2 ∧ i = .int .i64 (k : Int) ∧ Below w2.heap.size w2 wr) (fun i _ => m2 - (intOf i).toNat)
  case atStart => exact ⟨0, by omega, rfl, Below.refl _ _⟩
  case round =>
    clear cm
    obtain ⟨k, hk, rfl, hb⟩ := hrel
    have HW := Lib.hid hb
    clear hb
    by_cases ck : k < m2
    · have k1 : (k : Int) < (m2 : Int) := by omega
      have k0 : (0 : Int) ≤ (k : Int) := by omega
      have k2 : (k : Int) < 16384 := by have := LM.out; omega
      have lk : k < L.length := by have := E.out; omega
      obtain ⟨a1, rfl⟩ := SlP.addr S3.out (by omega)
      obtain ⟨a2, rfl⟩ := SlP.addr S2.out (by omega)
      have T1 := Lib.hid (fun (z : Wb wr) => (S3.out.below (HW.out.trans (z.bel.mono HW.out.size))).at k lk)
      have T2 := Lib.hid (fun (z : Wb wr) => (S2.out.below (HW.out.trans (z.bel.mono HW.out.size))).at k lk)
      obtain ⟨⟨u, v⟩, hu⟩ : ∃ x, x = L[k] := ⟨_, rfl⟩
      rw [← hu] at T1 T2
      clear hu lk
      have x0 : ∀ z : Wb wr, z.at.cell? (a1.add (k * 2)) = some (.int .i64 u) := fun z => (T1.out z).1
      have x1 : ∀ z : Wb wr, z.at.cell? ⟨(a1.add (k * 2)).block, (a1.add (k * 2)).off + 1, none⟩ = some (.int .i64 v) := fun z => (T1.out z).2
      have y0 : ∀ z : Wb wr, z.at.cell? (a2.add (k * 2)) = some (.int .i64 u) := fun z => (T2.out z).1
      have y1 : ∀ z : Wb wr, z.at.cell? ⟨(a2.add (k * 2)).block, (a2.add (k * 2)).off + 1, none⟩ = some (.int .i64 v) := fun z => (T2.out z).2
      have EQ : ∀ w, (binOp .neq 37 (.agg #[.int .i64 u, .int .i64 v]) (.agg #[.int .i64 u, .int .i64 v])).run Try.prog w = .ok (.bool false) w := fun w => by rw [run_neq_pair]; simp
      clear T1 T2
      go_wp2_with fail
      refine wp_region_wb (by kernel_rfl) (by kernel_rfl) ?_
      repeat (go_big_quiet_step (fail))
      refine wpQuiet_nil ?_
      rintro _ ⟨z, rfl⟩
      clear x0 x1 y0 y1 EQ
      have B4 := Lib.hid (HW.out.trans (z.bel.mono HW.out.size))
      go_wp2_with fail
      go_roundw
      case rel => exact ⟨k + 1, by omega, by go_num, B4.out⟩
      case measure => simp [intOf]; omega
    · obtain rfl : k = m2 := by omega
      have i2 : ¬ (k : Int) < (k : Int) := by omega
      go_wp2
      go_ret
      exact ⟨rfl, B2.out.trans (HW.out.mono B2.out.size)⟩

def BothPost (n : Int) (P : List Pr) (w : World) (e : Ending) (w' : World) : Prop :=
  Below w.heap.size w w' ∧ (e = .returned (.tuple #[.pointer none, .slice none 0 0]) ∨ ∃ (m B O : Nat), n = (m : Int) ∧ m ≤ 40 ∧ P.length ≤ 200 ∧ e = .returned (.tuple #[.pointer (some ⟨B, 0, none⟩), .slice (some ⟨O, 0, none⟩) m m]) ∧ RelAt w' B m (ofM P) ∧ TabAt w' O m (ofM P) ∧ w.heap.size ≤ O ∧ O + m < B)
set_option maxRecDepth 100000 in
set_option maxHeartbeats 6400000 in
theorem both_any (n : Int) (v : Value) (P : List Pr) (w : World) (h : SlP w v P) :
    Calls Try.prog 22 #[.int .i64 n, v] w (BothPost n P w) := by
  obtain ⟨p, m, c, rfl⟩ := SlAt.form h
  have E := Lib.hid h.len
  have H := Lib.hid h
  clear h
  by_cases c1' : n < 0
  · have c1 : decide (n < 0) = true := by simpa using c1'
    go_enter Try.func22, Try.ntmps22
    go_wp2
    exact bodyPost_ret (v := .tuple #[.pointer none, .slice none 0 0]) (by simp [results, Try.results22, go_sem]) rfl ⟨Below.refl _ _, .inl rfl⟩
  · have c1 : decide (n < 0) = false := by simpa using c1'
    by_cases c2' : n > 40
    · have c2 : decide (n > 40) = true := by simpa using c2'
      go_enter Try.func22, Try.ntmps22
      go_wp2
      exact bodyPost_ret (v := .tuple #[.pointer none, .slice none 0 0]) (by simp [results, Try.results22, go_sem]) rfl ⟨Below.refl _ _, .inl rfl⟩
    · have c2 : decide (n > 40) = false := by simp; omega
      by_cases c3' : 200 < m
      · have c3 : decide ((m : Int) > 200) = true := by simp; omega
        go_enter Try.func22, Try.ntmps22
        go_wp2
        exact bodyPost_ret (v := .tuple #[.pointer none, .slice none 0 0]) (by simp [results, Try.results22, go_sem]) rfl ⟨Below.refl _ _, .inl rfl⟩
      · have c3 : decide ((m : Int) > 200) = false := by simp; omega
        obtain ⟨q, rfl⟩ := Int.eq_ofNat_of_zero_le (show 0 ≤ n by omega)
        have Q := Lib.hid (show q ≤ 40 by omega)
        have L2 := Lib.hid (show P.length ≤ 200 by have := E.out; omega)
        have RO := Lib.hid (rof_any q _ P w (by omega) H.out)
        clear c1' c2' c3'
        go_enter Try.func22, Try.ntmps22
        go_wp2_with fail
        refine RO.out.mono ?_
        intro e w1 hp
        obtain ⟨hb, hp⟩ := hp
        have B1 := Lib.hid hb
        clear hb RO
        cases co : okP q P with
        | false =>
          rw [if_neg (by rw [co]; simp)] at hp
          subst hp
          go_wp2
          exact bodyPost_ret (v := .tuple #[.pointer none, .slice none 0 0]) (by simp [results, Try.results22, go_sem]) rfl ⟨B1.out, .inl rfl⟩
        | true =>
          rw [if_pos co] at hp
          obtain ⟨rfl, ht⟩ := hp
          have HT := Lib.hid ht
          have LT := Lib.hid ht.lt
          have OF := Lib.hid (of_any q _ P w1 (by have := Q.out; omega) (H.out.below B1.out))
          have CO := Lib.hid co
          clear ht co
          go_wp2_with fail
          refine OF.out.mono ?_
          intro e w2 hp
          obtain ⟨hb, hp⟩ := hp
          rw [if_pos CO.out] at hp
          obtain ⟨rfl, hr⟩ := hp
          have HT2 := Lib.hid (HT.out.below hb)
          have HR := Lib.hid hr
          have B2 := Lib.hid (B1.out.trans (hb.mono B1.out.size))
          clear hb hr OF
          go_wp2
          exact bodyPost_ret (v := .tuple #[.pointer (some ⟨w1.heap.size, 0, none⟩), .slice (some ⟨w.heap.size, 0, none⟩) q q]) (by simp [results, Try.results22, go_sem]) rfl ⟨B2.out, .inr ⟨q, _, _, rfl, Q.out, L2.out, rfl, HR.out, HT2.out, Nat.le_refl _, LT.out⟩⟩
end Go.Proofs.Ytjgfnemdklljmaa
