/-
  Layer 1, the walks: Of, Identity, Inverse, Irreflexive, Same; pairs in a slice.
-/
import Derived.Test.YtjgfnemdklljmaaAd
import Derived.Test.YtjgfnemdklljmaaSl
set_option linter.unusedSimpArgs false
set_option linter.unusedVariables false
namespace GrR
open Go
abbrev Pr := Int × Int
def pairC (P : List Pr) : List Value := P.flatMap fun p => [.int .i64 p.1, .int .i64 p.2]
theorem pairC_get (P : List Pr) (k : Nat) (h : k < P.length) : (pairC P)[k * 2]? = some (.int .i64 P[k].1) ∧ (pairC P)[k * 2 + 1]? = some (.int .i64 P[k].2) := by
  induction P generalizing k with
  | nil => simp at h
  | cons p P ih =>
    have e : pairC (p :: P) = .int .i64 p.1 :: .int .i64 p.2 :: pairC P := rfl
    cases k with
    | zero => rw [e]; exact ⟨rfl, rfl⟩
    | succ k =>
      rw [e, show (k + 1) * 2 = k * 2 + 1 + 1 by omega]
      simp only [List.getElem?_cons_succ, List.getElem_cons_succ]
      exact ih k (by simpa using h)
theorem pairC_len (P : List Pr) : (pairC P).length = P.length * 2 := by
  induction P with
  | nil => rfl
  | cons p P ih => show (_ :: _ :: pairC P).length = _; simp [ih]; omega
theorem pairC_app (A B : List Pr) : pairC (A ++ B) = pairC A ++ pairC B := List.flatMap_append
def okP (n : Nat) (P : List Pr) : Bool := P.all fun p => thingB n p.1 && thingB n p.2
def ofM (P : List Pr) : Mx := fun i j => P.any fun p => p.1 == (i : Int) && p.2 == (j : Int)
theorem ofM_succ {P : List Pr} {k : Nat} (h : k < P.length) {n : Nat} (h1 : thingB n P[k].1 = true) (h2 : thingB n P[k].2 = true) (i j : Nat) : addM (ofM (P.take k)) P[k].1.toNat P[k].2.toNat i j = ofM (P.take (k + 1)) i j := by
  simp only [thingB, decide_eq_true_eq] at h1 h2
  unfold addM ofM
  rw [List.take_succ_eq_append_getElem h, List.any_append, List.any_cons, List.any_nil, Bool.or_false]
  congr 1
  rw [Bool.eq_iff_iff]
  simp only [Bool.and_eq_true, beq_iff_eq]
  omega
theorem okP_succ {n : Nat} {P : List Pr} {k : Nat} (h : k < P.length) : okP n (P.take (k + 1)) = (okP n (P.take k) && (thingB n P[k].1 && thingB n P[k].2)) := by
  unfold okP
  rw [List.take_succ_eq_append_getElem h, List.all_append, List.all_cons, List.all_nil, Bool.and_true]
theorem okP_take {n : Nat} {P : List Pr} {k : Nat} (h : okP n (P.take k) = false) : okP n P = false := by
  cases c : okP n P
  · rfl
  · unfold okP at h c
    rw [List.all_eq_true] at c
    have : (P.take k).all (fun p => thingB n p.1 && thingB n p.2) = true := List.all_eq_true.2 fun x hx => c x (List.mem_of_mem_take hx)
    rw [this] at h
    cases h
def idM (n : Nat) : Mx := fun i j => decide (i < n) && i == j
end GrR
namespace Go.Proofs.Ytjgfnemdklljmaa
open Go.RowKit GrR

/-- a slice of pairs -/
def SlP (W : World) (v : Value) (P : List Pr) : Prop := SlAt W v 2 P.length (pairC P)
theorem SlP.below {W U : World} {v : Value} {P : List Pr} (h : SlP W v P) (k : Below W.heap.size W U) : SlP U v P := SlAt.below h k
theorem SlP.at {W : World} {a : Addr} {n c : Nat} {P : List Pr} (h : SlP W (.slice (some a) n c) P) (k : Nat) (hk : k < P.length) : W.cell? (a.add (k * 2)) = some (.int .i64 P[k].1) ∧ W.cell? ⟨(a.add (k * 2)).block, (a.add (k * 2)).off + 1, none⟩ = some (.int .i64 P[k].2) := by
  obtain ⟨_, ⟨e, _⟩ | ⟨b, cap, e, _, _, hx⟩⟩ := h
  · cases e
  · injection e with e1 e2 e3
    injection e1 with e1
    subst e1
    obtain ⟨g0, g1⟩ := pairC_get P k hk
    refine ⟨hx _ _ g0, ?_⟩
    rw [← add_one, add_add]
    exact hx _ _ g1
theorem SlP.len {W : World} {a : Option Addr} {n c : Nat} {P : List Pr} (h : SlP W (.slice a n c) P) : n = P.length := by
  obtain ⟨_, ⟨e, h0⟩ | ⟨b, cap, e, _⟩⟩ := h
  · injection e with e1 e2 e3; omega
  · injection e with e1 e2 e3
theorem SlP.most {W : World} {p : Option Addr} {n c : Nat} {P : List Pr} (h : SlP W (.slice p n c) P) : n ≤ 9223372036854775807 := by
  obtain ⟨_, ⟨e, h0⟩ | ⟨a, cp, e, h1, h2, _⟩⟩ := h
  · injection e with e1 e2 e3
    omega
  · injection e with e1 e2 e3
    unfold maxLen at h2
    omega
theorem SlP.addr {W : World} {p : Option Addr} {n c : Nat} {P : List Pr} (h : SlP W (.slice p n c) P) (hn : 0 < n) : ∃ a, p = some a := by
  obtain ⟨_, ⟨e, h0⟩ | ⟨a, cp, e, _⟩⟩ := h
  · injection e with e1 e2 e3
    omega
  · injection e with e1 e2 e3
    exact ⟨a, e1⟩
theorem RelAt.size' {w : World} {B n : Nat} {T : Mx} (h : RelAt w B n T) : ∀ z : Wb w, z.at.cell? ⟨B, 0, none⟩ = some (.int .i64 n) := fun z => (h.below z.bel).size

def OfPost (n : Nat) (P : List Pr) (w : World) (e : Ending) (w' : World) : Prop :=
  Below w.heap.size w w' ∧ if okP n P = true then e = .returned (.tuple #[.pointer (some ⟨w.heap.size, 0, none⟩), .int .i64 0]) ∧ RelAt w' w.heap.size n (ofM P) else e = .returned (.tuple #[.pointer none, .int .i64 1])
set_option maxRecDepth 100000 in
set_option maxHeartbeats 3200000 in
theorem of_any (n : Nat) (v : Value) (P : List Pr) (w : World) (hn : n ≤ 128) (h : SlP w v P) :
    Calls Try.prog 14 #[.int .i64 (n : Int), v] w (OfPost n P w) := by
  obtain ⟨p, m, c, rfl⟩ := SlAt.form h
  have NW := Lib.hid (new_any n w hn)
  have E := Lib.hid h.len
  have H := Lib.hid h
  have MX := h.most
  clear h hn
  go_enter Try.func14, Try.ntmps14
  go_wp2_with fail
  refine NW.out.mono ?_
  rintro e w1 ⟨rfl, g1, g2⟩
  have G1 := Lib.hid g1
  have G2 := Lib.hid g2
  clear g1 g2 NW
  go_wp2_with fail
  go_loopw [21] (fun i wr => ∃ k : Nat, k ≤ m ∧ i = .int .i64 (k : Int) ∧ okP n (P.take k) = true ∧ RelAt wr w.heap.size n (ofM (P.take k)) ∧ Below w.heap.size w wr) (fun i _ => m - (intOf i).toNat)
  case atStart => exact ⟨0, by omega, rfl, rfl, G1.out, G2.out⟩
  case round =>
    obtain ⟨k, hk, rfl, ho, hr, hb⟩ := hrel
    have HO := Lib.hid ho
    have HR := Lib.hid hr
    have HB := Lib.hid hb
    clear ho hr hb
    by_cases ck : k < m
    · have lk : k < P.length := by have := E.out; omega
      obtain ⟨a, rfl⟩ := SlP.addr H.out (by omega)
      obtain ⟨x0, x1⟩ := (H.out.below HB.out).at k lk
      have OS := Lib.hid (fun h1 h2 i j => ofM_succ (n := n) lk h1 h2 i j)
      have PS := Lib.hid (okP_succ (n := n) lk)
      obtain ⟨⟨u, v⟩, hu⟩ : ∃ x, x = P[k] := ⟨_, rfl⟩
      rw [← hu] at x0 x1 OS PS
      clear hu lk
      have k1 : (k : Int) < (m : Int) := by omega
      have k0 : (0 : Int) ≤ (k : Int) := by omega
      go_upto_region 7 with fail
      clear x0 x1
      refine to_cls ?_
      intro U hU z
      have rp : ∀ z : Wb U, Row z.at wr.heap.size [.int .i64 u, .int .i64 v] 37 := Row.next (Row.new wr _ _) hU
      have KK := Lib.hid (KB.next (KB.alloc HB.out _) hU)
      have HR2 := Lib.hid (((HR.out.below (KB.alloc (Below.refl _ wr) (.cells #[.int .i64 u, .int .i64 v] 37))).below hU).below z.bel)
      clear hU
      obtain ⟨A, hA⟩ : ∃ A, A = wr.heap.size := ⟨_, rfl⟩
      rw [← hA] at rp
      simp only [← hA]
      clear hA
      have y0 : z.at.cell? ⟨A, 0, none⟩ = some (.int .i64 u) := (rp z).cell 0
      have y1 : z.at.cell? ⟨A, 1, none⟩ = some (.int .i64 v) := (rp z).cell 1
      go_wp2_with fail
      refine (add_any w.heap.size n _ u v z.at HR2.out).mono ?_
      intro e w2 hp
      unfold AddPost at hp
      cases c1 : (thingB n u && thingB n v) with
      | false =>
        rw [if_neg (by rw [c1]; simp)] at hp
        obtain ⟨rfl, rfl⟩ := hp
        have BD := Lib.hid (show okP n P = false from okP_take (k := k + 1) (by rw [PS.out, c1]; simp))
        go_wp2
        exact bodyPost_ret (v := .tuple #[.pointer none, .int .i64 1]) (by simp [results, Try.results14, go_sem]) rfl ⟨KK.out z, by rw [if_neg (by rw [BD.out]; simp)]⟩
      | true =>
        rw [if_pos c1] at hp
        obtain ⟨rfl, g1, g2⟩ := hp
        have c2 := c1
        simp only [Bool.and_eq_true] at c2
        have R3 := Lib.hid (g1.eqT (OS.out c2.1 c2.2))
        have B3 := Lib.hid ((KK.out z).trans (g2.below (Nat.le_refl _) (KK.out z).size))
        have O3 := Lib.hid (show okP n (P.take (k + 1)) = true by rw [PS.out, HO.out, c1]; rfl)
        clear g1 g2 c1 c2
        go_wp2
        go_roundw
        case rel => exact ⟨k + 1, by omega, by go_num, O3.out, R3.out, B3.out⟩
        case measure => simp [intOf]; omega
    · obtain rfl : k = m := by omega
      have TK := Lib.hid (show P.take k = P from List.take_of_length_le (by have := E.out; omega))
      have O4 := Lib.hid (show okP n P = true by rw [← TK.out]; exact HO.out)
      have R4 := Lib.hid (show RelAt wr w.heap.size n (ofM P) by have := HR.out; rwa [TK.out] at this)
      go_wp2
      exact bodyPost_ret (v := .tuple #[.pointer (some ⟨w.heap.size, 0, none⟩), .int .i64 0]) (by simp [results, Try.results14, go_sem]) rfl ⟨HB.out, by rw [if_pos O4.out]; exact ⟨rfl, R4.out⟩⟩

set_option maxRecDepth 100000 in
set_option maxHeartbeats 3200000 in
theorem ident_any (n : Nat) (w : World) (hn : n ≤ 128) :
    Calls Try.prog 17 #[.int .i64 (n : Int)] w fun e w' => e = .returned (.tuple #[.pointer (some ⟨w.heap.size, 0, none⟩), .int .i64 0]) ∧ RelAt w' w.heap.size n (idM n) ∧ Below w.heap.size w w' := by
  have NW := Lib.hid (new_any n w hn)
  have HN := Lib.hid hn
  clear hn
  go_enter Try.func17, Try.ntmps17
  go_wp2_with fail
  refine NW.out.mono ?_
  rintro e w1 ⟨rfl, g1, g2⟩
  have G1 := Lib.hid g1
  have G2 := Lib.hid g2
  clear g1 g2 NW
  go_wp2_with fail
  go_loopw [16] (fun i wr => ∃ k : Nat, k ≤ n ∧ i = .int .i64 (k : Int) ∧ RelAt wr w.heap.size n (fun i j => decide (i < k) && i == j) ∧ Below w.heap.size w wr) (fun i _ => n - (intOf i).toNat)
  case atStart => exact ⟨0, by omega, rfl, G1.out.eqT (fun i j => by simp [emptyM]), G2.out⟩
  case round =>
    obtain ⟨k, hk, rfl, hr, hb⟩ := hrel
    have HR := Lib.hid hr
    have HB := Lib.hid hb
    clear hr hb
    by_cases ck : k < n
    · have k1 : (k : Int) < (n : Int) := by omega
      have k0 : (0 : Int) ≤ (k : Int) := by omega
      have k2 : (k : Int) < 128 := by have := HN.out; omega
      have PA := Lib.hid (put_any w.heap.size n _ k k wr HR.out ck ck)
      go_wp2_with fail
      refine PA.out.mono ?_
      rintro e w2 ⟨rfl, g1, g2⟩
      have R3 := Lib.hid (g1.eqT (U := fun i j => decide (i < k + 1) && i == j) (fun i j => by
        unfold addM
        rw [Bool.eq_iff_iff]
        simp only [Bool.or_eq_true, Bool.and_eq_true, decide_eq_true_eq, beq_iff_eq]
        omega))
      have B3 := Lib.hid (HB.out.trans (g2.below (Nat.le_refl _) HB.out.size))
      clear g1 g2
      go_wp2
      go_roundw
      case rel => exact ⟨k + 1, by omega, by go_num, R3.out, B3.out⟩
      case measure => simp [intOf]; omega
    · obtain rfl : k = n := by omega
      go_wp2
      exact bodyPost_ret (v := .tuple #[.pointer (some ⟨w.heap.size, 0, none⟩), .int .i64 0]) (by simp [results, Try.results17, go_sem]) rfl ⟨rfl, HR.out, HB.out⟩

set_option maxRecDepth 100000 in
set_option maxHeartbeats 3200000 in
theorem irr_any (B n : Nat) (T : Mx) (w : World) (h : RelAt w B n T) :
    Calls Try.prog 41 #[.pointer (some ⟨B, 0, none⟩)] w fun e w' => e = .returned (.bool (decide (∀ i, i < n → T i i = false))) ∧ w = w' := by
  have H := Lib.hid h
  have M := Lib.hid h.most
  have SZ := Lib.hid (fun w h => size_any B n T w h)
  clear h
  go_enter Try.func41, Try.ntmps41
  go_wp2_with fail
  refine (SZ.out w H.out).mono ?_
  rintro e w1 ⟨rfl, rfl⟩
  go_wp2_with fail
  go_loop [6] (fun i => ∃ k : Nat, k ≤ n ∧ i = .int .i64 (k : Int) ∧ ∀ i, i < k → T i i = false) (fun i => n - (intOf i).toNat)
  case atStart => exact ⟨0, by omega, rfl, fun i hi => absurd hi (by omega)⟩
  case round =>
    obtain ⟨k, hk, rfl, ht⟩ := hrel
    have HT := Lib.hid ht
    clear ht
    by_cases ck : k < n
    · have k1 : (k : Int) < (n : Int) := by omega
      have k0 : (0 : Int) ≤ (k : Int) := by omega
      have k2 : (k : Int) < 128 := by have := M.out; omega
      have BA := Lib.hid (bit_any B n T k k w H.out (by omega) (by omega))
      cases c : T k k with
      | false =>
        rw [c] at BA
        go_wp2_with (go_at_call 51; refine BA.out.mono ?_; rintro e w1 ⟨rfl, rfl⟩)
        go_round
        case rel => exact ⟨k + 1, by omega, by go_num, fun i hi => by
          by_cases e : i = k
          · rw [e]; exact c
          · exact HT.out i (by omega)⟩
        case measure => simp [intOf]; omega
      | true =>
        rw [c] at BA
        have D := Lib.hid (show decide (∀ i, i < n → T i i = false) = false from decide_eq_false fun h => by have := h k ck; rw [c] at this; cases this)
        go_wp2_with (go_at_call 51; refine BA.out.mono ?_; rintro e w1 ⟨rfl, rfl⟩)
        go_ret
        exact ⟨by rw [D.out]; rfl, rfl⟩
    · obtain rfl : k = n := by omega
      have D := Lib.hid (decide_eq_true HT.out)
      go_wp2
      go_ret
      exact ⟨by rw [D.out]; rfl, rfl⟩
end Go.Proofs.Ytjgfnemdklljmaa
