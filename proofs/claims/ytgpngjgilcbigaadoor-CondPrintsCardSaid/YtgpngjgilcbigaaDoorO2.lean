/-
  PLAIN LAYER 11: the tokens of a condition's text, and that they are the condition. No program in sight.
  PLAIN LAYER 11: a condition's text is its tokens. No program in sight.
-/
import Derived.Test.YtgpngjgilcbigaaDoorOs
import Derived.Test.YtgpngjgilcbigaaDoorOq
set_option linter.unusedSimpArgs false
set_option linter.unusedVariables false
namespace GrC
open GrP GrL
open GrA (reg reg_len itoa_len64 reg_lt numberOf)
/-! The tokens of a condition's text, without their places. -/
abbrev KT := Nat × Tx
def tkLeaf (k co r ad va : Int) : List KT :=
  if k = 1 then [(2, Go.Lib.itoa co), (3, [58]), (1, reg r), (3, [61]), (2, hexT va)]
  else if k = 2 then [(3, [91]), (2, hexT ad), (3, [93]), (3, [61]), (2, hexT va)]
  else if k = 3 then [(1, [102, 97, 117, 108, 116, 115]), (2, Go.Lib.itoa co), (3, [61]), (2, hexT va)]
  else [(1, [116, 114, 117, 101])]
def tkW (k : Int) (i : Nat) (ak : Int) (t : List KT) : List KT := if wrapB k i ak = true then (3, [40]) :: (t ++ [(3, [41])]) else t
def sgK (k : Int) : KT := if k = 4 then (3, [47, 92]) else (3, [92, 47])
def tkJoin (k : Int) : List Int → List (List KT) → List KT
  | [a], [t] => (3, [126]) :: tkW k 0 a t
  | [a, b], [t, u] => tkW k 0 a t ++ sgK k :: tkW k 1 b u
  | _, _ => []
mutual
def Cnd.tk : Cnd → List KT
  | .node k co r ad va ts =>
    if k = 1 ∨ k = 2 ∨ k = 3 ∨ k = 7 then tkLeaf k co r ad va
    else tkJoin k (ts.map Cnd.k) (tkL ts)
def tkL : List Cnd → List (List KT)
  | [] => []
  | a :: ts => a.tk :: tkL ts
end
mutual
/-- with zero in the fields that a kind doesn't have -/
def Cnd.clean : Cnd → Cnd
  | .node k co r ad va ts => if k = 1 then .node 1 co r 0 va [] else if k = 2 then .node 2 0 0 ad va [] else if k = 3 then .node 3 co 0 0 va [] else if k = 7 then .node 7 0 0 0 0 [] else .node k 0 0 0 0 (cleanL ts)
def cleanL : List Cnd → List Cnd
  | [] => []
  | a :: ts => a.clean :: cleanL ts
end
/-- what a condition that may be is: by its kind -/
inductive Rt : Cnd → Prop
  | reg (co r ad va : Int) : 0 ≤ co → co < 4 → 0 ≤ r → r < 31 → 0 ≤ va → va < 18446744073709551616 → Rt (.node 1 co r ad va [])
  | cell (co r ad va : Int) : 0 ≤ ad → ad < 18446744073709551616 → 0 ≤ va → va < 18446744073709551616 → Rt (.node 2 co r ad va [])
  | flt (co r ad va : Int) : 0 ≤ co → co < 4 → 0 ≤ va → va < 18446744073709551616 → Rt (.node 3 co r ad va [])
  | tru (co r ad va : Int) : Rt (.node 7 co r ad va [])
  | not (co r ad va : Int) (d : Cnd) : Rt d → Rt (.node 6 co r ad va [d])
  | and (co r ad va : Int) (d e : Cnd) : Rt d → Rt e → Rt (.node 4 co r ad va [d, e])
  | or (co r ad va : Int) (d e : Cnd) : Rt d → Rt e → Rt (.node 5 co r ad va [d, e])
theorem rt_of : ∀ (N : Nat) (c : Cnd), c.cnt ≤ N → c.ok → c.right 4 = 0 → Rt c := by
  intro N
  induction N with
  | zero => intro c h; have := cnt_pos c; omega
  | succ N ih =>
    intro c hc ho hr
    obtain ⟨k, co, r, ad, va, ts⟩ := c
    rw [Cnd.ok] at ho
    obtain ⟨o1, o2, o3, o4, o5⟩ := ho
    rw [Cnd.right] at hr
    split at hr
    · simp at hr
    · next h1 =>
      split at hr
      · simp at hr
      · next h2 =>
        have h3 : ((ts.length : Nat) : Int) = arity k := by omega
        rw [arity_eq] at h3
        rw [Cnd.cnt] at hc
        rcases h3 with ⟨h3, h4⟩ | ⟨rfl, h4⟩ | ⟨h3, h4⟩
        · obtain rfl : ts = [] := List.length_eq_zero_iff.1 h4
          rcases h3 with rfl | rfl | rfl | rfl
          · exact .reg _ _ _ _ (by omega) (by omega) (by omega) (by omega) o4.1 o4.2
          · exact .cell _ _ _ _ o3.1 o3.2 o4.1 o4.2
          · exact .flt _ _ _ _ (by omega) (by omega) o4.1 o4.2
          · exact .tru _ _ _ _
        · match ts, h4 with
          | [d], _ =>
            rw [rightL, rightL] at hr
            rw [cntL, cntL] at hc
            rw [okL] at o5
            have e : d.right 4 = 0 := by split at hr <;> omega
            exact .not _ _ _ _ d (ih d (by omega) o5.1 e)
        · match ts, h4 with
          | [d, e], _ =>
            rw [rightL, rightL, rightL] at hr
            rw [cntL, cntL, cntL] at hc
            rw [okL, okL] at o5
            have e1 : d.right 4 = 0 := by split at hr <;> omega
            rw [if_neg (by omega)] at hr
            have e2 : e.right 4 = 0 := by split at hr <;> omega
            rcases h3 with rfl | rfl
            · exact .and _ _ _ _ d e (ih d (by omega) o5.1 e1) (ih e (by omega) o5.2.1 e2)
            · exact .or _ _ _ _ d e (ih d (by omega) o5.1 e1) (ih e (by omega) o5.2.1 e2)
/-! Reading the tokens. -/
def ktOf (x : GrL.Tok) : KT := (x.kind, x.text)
/-- from its i-th token on T goes with S -/
def Seg (T : List GrL.Tok) (i : Nat) (S : List KT) : Prop := ∀ j (h : j < S.length), ∃ h2 : i + j < T.length, ktOf (T[i + j]'h2) = S[j]
theorem Seg.app {T : List GrL.Tok} {i : Nat} {S U : List KT} (h : Seg T i (S ++ U)) : Seg T i S ∧ Seg T (i + S.length) U := by
  refine ⟨fun j hj => ?_, fun j hj => ?_⟩
  · obtain ⟨h2, e⟩ := h j (by rw [List.length_append]; omega)
    exact ⟨h2, by rw [e, List.getElem_append_left hj]⟩
  · obtain ⟨h2, e⟩ := h (S.length + j) (by rw [List.length_append]; omega)
    refine ⟨by omega, ?_⟩
    have e3 : i + (S.length + j) = i + S.length + j := by omega
    simp only [e3] at e
    rw [e, List.getElem_append_right (by omega)]
    simp
theorem Seg.cons {T : List GrL.Tok} {i k : Nat} {t : Tx} {S : List KT} (h : Seg T i ((k, t) :: S)) : At T i k t ∧ Seg T (i + 1) S := by
  have h2 := Seg.app (S := [(k, t)]) (U := S) h
  obtain ⟨h3, e⟩ := h2.1 0 (by simp)
  simp only [ktOf, List.getElem_cons_zero, Prod.mk.injEq] at e
  exact ⟨⟨h3, e.1, e.2⟩, h2.2⟩
/-- a chain without its end -/
def Pre (T : List GrL.Tok) (sg : Tx) (kk : Int) (Q : Nat → Nat → Cnd → Prop) (i j : Nat) (e : Cnd) : Prop := ∃ n m c, Q i m c ∧ Spine T sg kk Q n m c j e
theorem Spine.snoc {T : List GrL.Tok} {sg : Tx} {kk : Int} {Q : Nat → Nat → Cnd → Prop} {n i j m : Nat} {c e d : Cnd} (h : Spine T sg kk Q n i c j e) (ha : At T j 3 sg) (hq : Q (j + 1) m d) : Spine T sg kk Q (n + 1) i c m (.node kk 0 0 0 0 [e, d]) := by
  induction h with
  | done i c => exact .step ha hq (.done _ _)
  | step h1 h2 _ ih => exact .step h1 h2 (ih ha hq)
theorem Pre.one {T : List GrL.Tok} {sg : Tx} {kk : Int} {Q : Nat → Nat → Cnd → Prop} {i j : Nat} {e : Cnd} (h : Q i j e) : Pre T sg kk Q i j e := ⟨0, j, e, h, .done _ _⟩
theorem Pre.snoc {T : List GrL.Tok} {sg : Tx} {kk : Int} {Q : Nat → Nat → Cnd → Prop} {i j m : Nat} {e d : Cnd} (h : Pre T sg kk Q i j e) (ha : At T j 3 sg) (hq : Q (j + 1) m d) : Pre T sg kk Q i m (.node kk 0 0 0 0 [e, d]) := by
  obtain ⟨n, k, c, h1, h2⟩ := h
  exact ⟨n + 1, k, c, h1, h2.snoc ha hq⟩
theorem Pre.ends {T : List GrL.Tok} {sg : Tx} {kk : Int} {Q : Nat → Nat → Cnd → Prop} {i j : Nat} {e : Cnd} (h : Pre T sg kk Q i j e) (hj : j < T.length) (hn : ¬ At T j 3 sg) : Chain T sg kk Q i j e := by
  obtain ⟨n, k, c, h1, h2⟩ := h
  exact ⟨n, k, c, h1, h2, hj, hn⟩
theorem At.not {T : List GrL.Tok} {j k k' : Nat} {t t' : Tx} (h : At T j k t) (hn : k ≠ k' ∨ t ≠ t') : ¬ At T j k' t' := by
  obtain ⟨_, h1, h2⟩ := h
  rintro ⟨_, h3, h4⟩
  rcases hn with hn | hn
  · exact hn (h1.symm.trans h3)
  · exact hn (h2.symm.trans h4)
theorem At.lt {T : List GrL.Tok} {j k : Nat} {t : Tx} (h : At T j k t) : j < T.length := h.1
def sgA : Tx := [47, 92]
def sgO : Tx := [92, 47]
/-- as a part, as a chain of ands, as one of ors -/
structure Lv (T : List GrL.Tok) (n i : Nat) (c : Cnd) : Prop where
  part : c.k ≠ 4 → c.k ≠ 5 → PartN T n i (i + c.tk.length) c.clean
  ands : c.k ≠ 5 → Pre T [47, 92] 4 (PartN T n) i (i + c.tk.length) c.clean
  ors : i + c.tk.length < T.length → ¬ At T (i + c.tk.length) 3 [47, 92] → Pre T [92, 47] 5 (Chain T [47, 92] 4 (PartN T n)) i (i + c.tk.length) c.clean
theorem Lv.of_part {T : List GrL.Tok} {n i : Nat} {c : Cnd} (h : PartN T n i (i + c.tk.length) c.clean) (hk : c.k ≠ 5) (hk4 : c.k ≠ 4) : Lv T n i c :=
  ⟨fun _ _ => h, fun _ => .one h, fun h1 h2 => .one (Pre.ends (.one h) h1 h2)⟩
theorem Lv.of_ands {T : List GrL.Tok} {n i : Nat} {c : Cnd} (h : Pre T [47, 92] 4 (PartN T n) i (i + c.tk.length) c.clean) (hk : c.k = 4) : Lv T n i c :=
  ⟨fun h1 _ => absurd hk h1, fun _ => h, fun h1 h2 => .one (h.ends h1 h2)⟩
/-- in brackets, or not -/
theorem Lv.wrapped {T : List GrL.Tok} {n i : Nat} {c : Cnd} (h : Lv T n (i + 1) c) (h0 : At T i 3 [40]) (h1 : At T (i + 1 + c.tk.length) 3 [41]) : PartN T (n + 1) i (i + 1 + c.tk.length + 1) c.clean :=
  .inl ⟨i + 1 + c.tk.length, h0, (h.ors h1.lt (h1.not (.inr (by decide)))).ends h1.lt (h1.not (.inr (by decide))), h1, rfl⟩
theorem itoa_num {co : Int} (h0 : 0 ≤ co) (h1 : co < 18446744073709551616) : parse (strL (Go.Lib.itoa co)) = (co.toNat, 0) := by
  obtain ⟨u, rfl⟩ := Int.eq_ofNat_of_zero_le h0
  rw [Go.Lib.itoa, if_neg (by omega), ← GrP.digs_dec]
  exact parse_dec _ (by simpa using (by omega : u < 18446744073709551616))
theorem hexT_num {v : Int} (h1 : v < 18446744073709551616) : parse (strL (hexT v)) = (v.toNat, 0) := parse_hex _ (by omega)
theorem regN : ∀ k : Fin 31, numberOf (reg (k.val : Int)) = some k.val := by decide +kernel
theorem numberOf_reg {r : Int} (h0 : 0 ≤ r) (h1 : r < 31) : numberOf (reg r) = some r.toNat := by
  have := regN ⟨r.toNat, by omega⟩
  simp only at this
  rwa [Int.toNat_of_nonneg h0] at this
theorem clean_k (c : Cnd) : c.clean.k = c.k := by
  obtain ⟨k, co, r, ad, va, ts⟩ := c
  rw [Cnd.clean]
  show _ = k
  split
  · next h => exact h.symm
  · split
    · next h => exact h.symm
    · split
      · next h => exact h.symm
      · split
        · next h => exact h.symm
        · rfl
theorem wrapB_and0 {a : Int} : wrapB 4 0 a = decide (a = 5) := by simp [wrapB]
theorem wrapB_and1 {a : Int} : wrapB 4 1 a = (decide (a = 5) || decide (a = 4)) := by simp [wrapB]
theorem wrapB_or0 {a : Int} : wrapB 5 0 a = false := by simp [wrapB]
theorem wrapB_or1 {a : Int} : wrapB 5 1 a = decide (a = 5) := by simp [wrapB]
theorem wrapB_not {a : Int} : wrapB 6 0 a = (decide (a = 5) || decide (a = 4)) := by simp [wrapB]
theorem tkW_yes {k : Int} {i : Nat} {a : Int} {t : List KT} (h : wrapB k i a = true) : tkW k i a t = (3, [40]) :: (t ++ [(3, [41])]) := if_pos h
theorem tkW_no {k : Int} {i : Nat} {a : Int} {t : List KT} (h : wrapB k i a = false) : tkW k i a t = t := if_neg (by rw [h]; decide)
/-- an argument: with brackets it is a part; without, what it is itself -/
theorem arg_part {T : List GrL.Tok} {n i : Nat} {c : Cnd} {k : Int} {w : Nat} (h : ∀ i, Seg T i c.tk → Lv T n i c) (h2 : ∀ i, Seg T i c.tk → Lv T (n + 1) i c) (hs : Seg T i (tkW k w c.k c.tk)) (hw : wrapB k w c.k = true ∨ (c.k ≠ 4 ∧ c.k ≠ 5)) : PartN T (n + 1) i (i + (tkW k w c.k c.tk).length) c.clean := by
  cases hb : wrapB k w c.k with
  | true =>
    rw [tkW_yes hb] at hs ⊢
    obtain ⟨h0, hs⟩ := hs.cons
    obtain ⟨h1, h3⟩ := hs.app
    have := (h _ h1).wrapped h0 h3.cons.1
    rw [show i + ((3, [40]) :: (c.tk ++ [(3, [41])]) : List KT).length = i + 1 + c.tk.length + 1 by simp; omega]
    exact this
  | false =>
    rw [tkW_no hb] at hs ⊢
    rw [hb] at hw
    have hw := hw.resolve_left (by decide)
    exact (h2 _ hs).part hw.1 hw.2
theorem reads : ∀ (N : Nat) (c : Cnd), c.cnt ≤ N → Rt c → ∀ (T : List GrL.Tok) (n i : Nat), 2 * N ≤ n → Seg T i c.tk → Lv T n i c := by
  intro N
  induction N with
  | zero => intro c h; have := cnt_pos c; omega
  | succ N ih =>
    intro c hc hr T n i hn hs
    obtain ⟨n, rfl⟩ : ∃ m, n = m + 1 := ⟨n - 1, by omega⟩
    cases hr with
    | reg co r ad va h1 h2 h3 h4 h5 h6 =>
      refine Lv.of_part ?_ (by show ¬ (1 : Int) = 5; decide) (by show ¬ (1 : Int) = 4; decide)
      have e : Cnd.tk (.node 1 co r ad va []) = [(2, Go.Lib.itoa co), (3, [58]), (1, reg r), (3, [61]), (2, hexT va)] := by rw [Cnd.tk, if_pos (.inl rfl)]; rfl
      rw [e] at hs ⊢
      obtain ⟨a1, hs⟩ := hs.cons
      obtain ⟨a2, hs⟩ := hs.cons
      obtain ⟨a3, hs⟩ := hs.cons
      obtain ⟨a4, hs⟩ := hs.cons
      obtain ⟨a5, hs⟩ := hs.cons
      exact .inr (.inr (.inr (.inl ⟨_, _, _, co.toNat, r.toNat, va.toNat, a1, a2, a3, a4, a5, itoa_num h1 (by omega), by omega, numberOf_reg h3 h4, by omega, hexT_num h6, rfl, by rw [Cnd.clean, if_pos rfl]; simp [Int.toNat_of_nonneg h1, Int.toNat_of_nonneg h3, Int.toNat_of_nonneg h5]⟩)))
    | cell co r ad va h1 h2 h3 h4 =>
      refine Lv.of_part ?_ (by show ¬ (2 : Int) = 5; decide) (by show ¬ (2 : Int) = 4; decide)
      have e : Cnd.tk (.node 2 co r ad va []) = [(3, [91]), (2, hexT ad), (3, [93]), (3, [61]), (2, hexT va)] := by rw [Cnd.tk, if_pos (.inr (.inl rfl))]; rfl
      rw [e] at hs ⊢
      obtain ⟨a1, hs⟩ := hs.cons
      obtain ⟨a2, hs⟩ := hs.cons
      obtain ⟨a3, hs⟩ := hs.cons
      obtain ⟨a4, hs⟩ := hs.cons
      obtain ⟨a5, hs⟩ := hs.cons
      exact .inr (.inr (.inr (.inr (.inl ⟨_, _, ad.toNat, va.toNat, a1, a2, a3, a4, a5, hexT_num h2, hexT_num h4, rfl, by rw [Cnd.clean, if_neg (by decide), if_pos rfl]; simp [Int.toNat_of_nonneg h1, Int.toNat_of_nonneg h3]⟩))))
    | flt co r ad va h1 h2 h3 h4 =>
      refine Lv.of_part ?_ (by show ¬ (3 : Int) = 5; decide) (by show ¬ (3 : Int) = 4; decide)
      have e : Cnd.tk (.node 3 co r ad va []) = [(1, [102, 97, 117, 108, 116, 115]), (2, Go.Lib.itoa co), (3, [61]), (2, hexT va)] := by rw [Cnd.tk, if_pos (.inr (.inr (.inl rfl)))]; rfl
      rw [e] at hs ⊢
      obtain ⟨a1, hs⟩ := hs.cons
      obtain ⟨a2, hs⟩ := hs.cons
      obtain ⟨a3, hs⟩ := hs.cons
      obtain ⟨a4, hs⟩ := hs.cons
      exact .inr (.inr (.inr (.inr (.inr ⟨_, _, co.toNat, va.toNat, a1, a2, a3, a4, itoa_num h1 (by omega), by omega, hexT_num h4, rfl, by rw [Cnd.clean, if_neg (by decide), if_neg (by decide), if_pos rfl]; simp [Int.toNat_of_nonneg h1, Int.toNat_of_nonneg h3]⟩))))
    | tru co r ad va =>
      refine Lv.of_part ?_ (by show ¬ (7 : Int) = 5; decide) (by show ¬ (7 : Int) = 4; decide)
      have e : Cnd.tk (.node 7 co r ad va []) = [(1, [116, 114, 117, 101])] := by rw [Cnd.tk, if_pos (.inr (.inr (.inr rfl)))]; rfl
      rw [e] at hs ⊢
      obtain ⟨a1, hs⟩ := hs.cons
      exact .inr (.inr (.inl ⟨a1, rfl, by rw [Cnd.clean]; rfl⟩))
    | not co r ad va d hd =>
      have hc2 : d.cnt ≤ N := by simp only [Cnd.cnt, cntL] at hc; omega
      obtain ⟨n, rfl⟩ : ∃ m, n = m + 1 := ⟨n - 1, by have := cnt_pos d; omega⟩
      refine Lv.of_part ?_ (by show ¬ (6 : Int) = 5; decide) (by show ¬ (6 : Int) = 4; decide)
      have e : Cnd.tk (.node 6 co r ad va [d]) = (3, [126]) :: tkW 6 0 d.k d.tk := by rw [Cnd.tk, if_neg (by decide)]; rfl
      rw [e] at hs ⊢
      obtain ⟨a1, hs⟩ := hs.cons
      have hp := arg_part (fun i h => ih d hc2 hd T n i (by omega) h) (fun i h => ih d hc2 hd T (n + 1) i (by omega) h) hs (by rw [wrapB_not]; by_cases c5 : d.k = 5 <;> by_cases c4 : d.k = 4 <;> simp [c5, c4])
      refine .inr (.inl ⟨d.clean, a1, ?_, ?_⟩)
      · rw [show i + ((3, [126]) :: tkW 6 0 d.k d.tk : List KT).length = i + 1 + (tkW 6 0 d.k d.tk).length by simp; omega]
        exact hp
      · rw [Cnd.clean, if_neg (by decide), if_neg (by decide), if_neg (by decide), if_neg (by decide)]; rfl
    | and co r ad va d f hd hf =>
      have hc2 : d.cnt ≤ N ∧ f.cnt ≤ N := by simp only [Cnd.cnt, cntL] at hc; omega
      refine Lv.of_ands ?_ rfl
      have e : Cnd.tk (.node 4 co r ad va [d, f]) = tkW 4 0 d.k d.tk ++ (3, [47, 92]) :: tkW 4 1 f.k f.tk := by rw [Cnd.tk, if_neg (by decide)]; rfl
      rw [e] at hs ⊢
      obtain ⟨s1, s2⟩ := hs.app
      obtain ⟨a1, s3⟩ := s2.cons
      have hp := arg_part (fun i h => ih f hc2.2 hf T n i (by omega) h) (fun i h => ih f hc2.2 hf T (n + 1) i (by omega) h) s3 (by rw [wrapB_and1]; by_cases c5 : f.k = 5 <;> by_cases c4 : f.k = 4 <;> simp [c5, c4])
      have hl : Pre T [47, 92] 4 (PartN T (n + 1)) i (i + (tkW 4 0 d.k d.tk).length) d.clean := by
        by_cases c5 : d.k = 5
        · exact .one (arg_part (fun i h => ih d hc2.1 hd T n i (by omega) h) (fun i h => ih d hc2.1 hd T (n + 1) i (by omega) h) s1 (.inl (by rw [wrapB_and0, c5]; rfl)))
        · have hb : wrapB 4 0 d.k = false := by rw [wrapB_and0]; simpa using c5
          rw [tkW_no hb] at s1 ⊢
          exact (ih d hc2.1 hd T (n + 1) i (by omega) s1).ands c5
      have := hl.snoc a1 hp
      rw [show Cnd.clean (.node 4 co r ad va [d, f]) = .node 4 0 0 0 0 [d.clean, f.clean] by rw [Cnd.clean, if_neg (by decide), if_neg (by decide), if_neg (by decide), if_neg (by decide)]; rfl]
      rw [show i + (tkW 4 0 d.k d.tk ++ (3, [47, 92]) :: tkW 4 1 f.k f.tk).length = i + (tkW 4 0 d.k d.tk).length + 1 + (tkW 4 1 f.k f.tk).length by rw [List.length_append, List.length_cons]; omega]
      exact this
    | or co r ad va d f hd hf =>
      have hc2 : d.cnt ≤ N ∧ f.cnt ≤ N := by simp only [Cnd.cnt, cntL] at hc; omega
      have e : Cnd.tk (.node 5 co r ad va [d, f]) = d.tk ++ (3, [92, 47]) :: tkW 5 1 f.k f.tk := by rw [Cnd.tk, if_neg (by decide)]; rw [show tkL [d, f] = [d.tk, f.tk] from rfl]; show tkW 5 0 d.k d.tk ++ _ = _; rw [tkW_no wrapB_or0]; rfl
      refine ⟨fun _ h => absurd rfl h, fun h => absurd rfl h, fun h1 h2 => ?_⟩
      rw [e] at hs h1 h2 ⊢
      obtain ⟨s1, s2⟩ := hs.app
      obtain ⟨a1, s3⟩ := s2.cons
      rw [show i + (d.tk ++ (3, [92, 47]) :: tkW 5 1 f.k f.tk).length = i + d.tk.length + 1 + (tkW 5 1 f.k f.tk).length by rw [List.length_append, List.length_cons]; omega] at h1 h2 ⊢
      have hl := (ih d hc2.1 hd T (n + 1) i (by omega) s1).ors a1.lt (a1.not (.inr (by decide)))
      have hp : Pre T [47, 92] 4 (PartN T (n + 1)) (i + d.tk.length + 1) (i + d.tk.length + 1 + (tkW 5 1 f.k f.tk).length) f.clean := by
        by_cases c5 : f.k = 5
        · exact .one (arg_part (fun i h => ih f hc2.2 hf T n i (by omega) h) (fun i h => ih f hc2.2 hf T (n + 1) i (by omega) h) s3 (.inl (by rw [wrapB_or1, c5]; rfl)))
        · have hb : wrapB 5 1 f.k = false := by rw [wrapB_or1]; simpa using c5
          rw [tkW_no hb] at s3 ⊢
          exact (ih f hc2.2 hf T (n + 1) _ (by omega) s3).ands c5
      have := hl.snoc a1 (hp.ends h1 h2)
      rw [show Cnd.clean (.node 5 co r ad va [d, f]) = .node 5 0 0 0 0 [d.clean, f.clean] by rw [Cnd.clean, if_neg (by decide), if_neg (by decide), if_neg (by decide), if_neg (by decide)]; rfl]
      exact this
end GrC
namespace Go.Proofs.YtgpngjgilcbigaaDoor
open Go.RowKit GrP GrL GrC
/-- a condition's tokens, and the line's end: the condition -/
theorem reads_all {c : Cnd} (h : Rt c) {T : List GrL.Tok} (hs : Seg T 0 (c.tk ++ [(4, [])])) : OrN T (2 * c.cnt) 0 c.tk.length c.clean ∧ At T c.tk.length 4 [] := by
  obtain ⟨s1, s2⟩ := hs.app
  rw [Nat.zero_add] at s2
  have a := s2.cons.1
  have l := reads c.cnt c (Nat.le_refl _) h T (2 * c.cnt) 0 (Nat.le_refl _) s1
  have := l.ors (by rw [Nat.zero_add]; exact a.lt) (by rw [Nat.zero_add]; exact a.not (.inl (by decide)))
  rw [Nat.zero_add] at this
  exact ⟨this.ends a.lt (a.not (.inl (by decide))), a⟩
end Go.Proofs.YtgpngjgilcbigaaDoor

namespace GrC
open GrP GrL
open GrA (reg reg_len itoa_len64 reg_lt numberOf)
def NL (r : Tx) : Prop := ∀ c, r.head? = some c → letterB c = false
/-- text t is the tokens K, whatever follows -/
def La (t : Tx) (K : List KT) : Prop := ∀ (p r : Tx) (L : List GrL.Tok), Tks (p ++ (t ++ r)) L p.length → ∃ L', Tks (p ++ (t ++ r)) (L ++ L') (p.length + t.length) ∧ L'.map ktOf = K
/-- .. if no letter follows -/
def Lx (t : Tx) (K : List KT) : Prop := ∀ (p r : Tx) (L : List GrL.Tok), NL r → Tks (p ++ (t ++ r)) L p.length → ∃ L', Tks (p ++ (t ++ r)) (L ++ L') (p.length + t.length) ∧ L'.map ktOf = K
theorem La.lx {t : Tx} {K : List KT} (h : La t K) : Lx t K := fun p r L _ => h p r L
theorem la_nil : La [] [] := fun p r L h => ⟨[], by simpa using h, rfl⟩
theorem glue (p t u r : Tx) : p ++ (t ++ u ++ r) = p ++ (t ++ (u ++ r)) := by simp
theorem glue2 (p t u r : Tx) : p ++ (t ++ u ++ r) = (p ++ t) ++ (u ++ r) := by simp
theorem La.app {t u : Tx} {K M : List KT} (h : La t K) (g : La u M) : La (t ++ u) (K ++ M) := fun p r L h0 => by
  rw [glue] at h0
  obtain ⟨L1, h1, e1⟩ := h p (u ++ r) L h0
  rw [← glue, glue2] at h1
  obtain ⟨L2, h2, e2⟩ := g (p ++ t) r (L ++ L1) (by rw [List.length_append]; exact h1)
  refine ⟨L1 ++ L2, ?_, by rw [List.map_append, e1, e2]⟩
  rw [glue2 p t u r, ← List.append_assoc L L1 L2, show p.length + (t ++ u).length = (p ++ t).length + u.length by simp; omega]
  exact h2
theorem La.lxapp {t u : Tx} {K M : List KT} (h : La t K) (g : Lx u M) : Lx (t ++ u) (K ++ M) := fun p r L hr h0 => by
  rw [glue] at h0
  obtain ⟨L1, h1, e1⟩ := h p (u ++ r) L h0
  rw [← glue, glue2] at h1
  obtain ⟨L2, h2, e2⟩ := g (p ++ t) r (L ++ L1) hr (by rw [List.length_append]; exact h1)
  refine ⟨L1 ++ L2, ?_, by rw [List.map_append, e1, e2]⟩
  rw [glue2 p t u r, ← List.append_assoc L L1 L2, show p.length + (t ++ u).length = (p ++ t).length + u.length by simp; omega]
  exact h2
theorem nl_app {u r : Tx} {c : UInt8} (h : u.head? = some c) (hc : letterB c = false) : NL (u ++ r) := by
  intro d hd
  cases u with
  | nil => simp at h
  | cons x u =>
    simp at h hd
    rw [← hd, h]
    exact hc
theorem Lx.laapp {t u : Tx} {K M : List KT} {c : UInt8} (h : Lx t K) (hu : u.head? = some c) (hc : letterB c = false) (g : La u M) : La (t ++ u) (K ++ M) := fun p r L h0 => by
  rw [glue] at h0
  obtain ⟨L1, h1, e1⟩ := h p (u ++ r) L (nl_app hu hc) h0
  rw [← glue, glue2] at h1
  obtain ⟨L2, h2, e2⟩ := g (p ++ t) r (L ++ L1) (by rw [List.length_append]; exact h1)
  refine ⟨L1 ++ L2, ?_, by rw [List.map_append, e1, e2]⟩
  rw [glue2 p t u r, ← List.append_assoc L L1 L2, show p.length + (t ++ u).length = (p ++ t).length + u.length by simp; omega]
  exact h2
/-! The least texts. -/
theorem at_glue (p t r : Tx) (h : 0 < t.length) : ∃ hi : p.length < (p ++ (t ++ r)).length, (p ++ (t ++ r))[p.length]'hi = t[0]'h := by
  refine ⟨by simp; omega, ?_⟩
  rw [List.getElem_append_right (Nat.le_refl _)]
  simp only [Nat.sub_self]
  rw [List.getElem_append_left h]
theorem drop_glue (p q : Tx) : (p ++ q).drop p.length = q := by simp
theorem la_one {t : Tx} {k : Nat} (ht : 0 < t.length) (hb : blankB (t[0]'ht) = false) (ho : ∀ r, one (t ++ r) = (0, k, t.length)) : La t [(k, t)] := fun p r L h0 => by
  obtain ⟨hi, e⟩ := at_glue p t r ht
  have o := ho r
  have d := drop_glue p (t ++ r)
  have g := h0.good hi (by rw [e]; exact hb) (by rw [d, o])
  rw [d, o] at g
  exact ⟨_, g, by simp [ktOf]⟩
theorem lx_one {t : Tx} {k : Nat} (ht : 0 < t.length) (hb : blankB (t[0]'ht) = false) (ho : ∀ r, NL r → one (t ++ r) = (0, k, t.length)) : Lx t [(k, t)] := fun p r L hr h0 => by
  obtain ⟨hi, e⟩ := at_glue p t r ht
  have o := ho r hr
  have d := drop_glue p (t ++ r)
  have g := h0.good hi (by rw [e]; exact hb) (by rw [d, o])
  rw [d, o] at g
  exact ⟨_, g, by simp [ktOf]⟩
theorem la_blank : La [32] [] := fun p r L h0 => by
  obtain ⟨hi, e⟩ := at_glue p [32] r (by decide)
  exact ⟨[], by simpa using h0.blank hi (by rw [e]; decide), rfl⟩
theorem one_sign {l : Tx} {n : Nat} (h : sgn l = n) (hn : 0 < n) : one l = (0, 3, n) := by
  unfold one
  rw [h, if_pos hn]
theorem la_sign (b : UInt8) (hb : b ∈ ones) : La [b] [(3, [b])] := by
  have all : ∀ b ∈ ones, blankB b = false ∧ b ≠ 47 ∧ b ≠ 92 := by decide
  obtain ⟨h1, h2, h3⟩ := all b hb
  refine la_one (by simp) h1 fun r => one_sign ?_ (by simp)
  unfold sgn
  rw [if_neg, if_pos]
  · rfl
  · exact hb
  · cases r <;> simp [h2, h3]
theorem la_and : La [47, 92] [(3, [47, 92])] := la_one (by simp) (by decide) fun r => one_sign (by unfold sgn; rw [if_pos (.inl (by simp))]; rfl) (by simp)
theorem la_or : La [92, 47] [(3, [92, 47])] := la_one (by simp) (by decide) fun r => one_sign (by unfold sgn; rw [if_pos (.inr (by simp))]; rfl) (by simp)
theorem letters_no {c : UInt8} (h : letterB c = true) : blankB c = false ∧ c ≠ 47 ∧ c ≠ 92 ∧ c ∉ ones := by
  have : ∀ c : UInt8, letterB c = true → blankB c = false ∧ c ≠ 47 ∧ c ≠ 92 ∧ c ∉ ones := by
    intro c
    have h : ∀ n : Fin 256, letterB (UInt8.ofNat n.val) = true → blankB (UInt8.ofNat n.val) = false ∧ UInt8.ofNat n.val ≠ 47 ∧ UInt8.ofNat n.val ≠ 92 ∧ UInt8.ofNat n.val ∉ ones := by decide +kernel
    have := h ⟨c.toNat, c.toNat_lt⟩
    simpa using this
  exact this c h
theorem run_word {t r : Tx} (ht : ∀ c ∈ t, letterB c = true) (hr : NL r) : run (t ++ r) = t.length := by
  unfold run
  rw [List.takeWhile_append_of_pos ht, List.length_append]
  cases r with
  | nil => rfl
  | cons c r =>
    rw [List.takeWhile_cons, hr c rfl]
    rfl
theorem sgn_word {c : UInt8} {l : Tx} (h : letterB c = true) : sgn (c :: l) = 0 := by
  obtain ⟨_, h2, h3, h4⟩ := letters_no h
  unfold sgn
  rw [if_neg, if_neg]
  · simpa using h4
  · cases l <;> simp [h2, h3]
theorem lx_word {c : UInt8} {t : Tx} (h : ∀ x ∈ c :: t, letterB x = true) (hl : (c :: t).length ≤ 24) (hd : ¬ (48 ≤ c.toNat ∧ c.toNat ≤ 57)) : Lx (c :: t) [(1, c :: t)] :=
  lx_one (by simp) (letters_no (h c (by simp))).1 fun r hr => by
    have e1 := run_word h hr
    have e2 : sgn (c :: t ++ r) = 0 := sgn_word (h c (by simp))
    unfold one
    rw [e2, e1, if_neg (by decide), if_neg (by simp), if_neg (by omega), if_neg (by simpa using hd)]
theorem lx_num {c : UInt8} {t : Tx} (h : ∀ x ∈ c :: t, letterB x = true) (hl : (c :: t).length ≤ 24) (hd : 48 ≤ c.toNat ∧ c.toNat ≤ 57) (hp : (parse (strL (c :: t))).2 = 0) : Lx (c :: t) [(2, c :: t)] :=
  lx_one (by simp) (letters_no (h c (by simp))).1 fun r hr => by
    have e1 := run_word h hr
    have e2 : sgn (c :: t ++ r) = 0 := sgn_word (h c (by simp))
    unfold one
    rw [e2, e1, if_neg (by decide), if_neg (by simp), if_neg (by omega), if_pos (by simpa using hd), show (c :: t ++ r).take (c :: t).length = c :: t by simp, hp]
/-! Numbers and registers. -/
theorem dgc_letter : ∀ d : Fin 16, letterB (dgc d.val) = true := by decide +kernel
theorem dgc_first : ∀ d : Fin 10, 48 ≤ (dgc d.val).toNat ∧ (dgc d.val).toNat ≤ 57 := by decide +kernel
theorem digs_letter {b : Nat} (hb : 2 ≤ b) (hb2 : b ≤ 16) : ∀ (u : Nat), ∀ c ∈ digs b u, letterB c = true := by
  intro u
  induction u using Nat.strongRecOn with
  | _ u ih =>
    by_cases h : u < b
    · rw [digs_small h]
      intro c hc
      simp at hc
      subst hc
      exact dgc_letter ⟨u, by omega⟩
    · rw [digs_big h hb]
      intro c hc
      rw [List.mem_append, List.mem_singleton] at hc
      rcases hc with hc | rfl
      · exact ih (u / b) (Nat.div_lt_self (by omega) (by omega)) c hc
      · exact dgc_letter ⟨u % b, by have := Nat.mod_lt u (show 0 < b by omega); omega⟩
theorem hexT_lx {v : Int} (h0 : 0 ≤ v) (h1 : v < 18446744073709551616) : Lx (hexT v) [(2, hexT v)] := by
  refine lx_num ?_ ?_ (by decide) (by rw [show strL (48 :: 120 :: digs 16 v.toNat) = strL (hexT v) from rfl, hexT_num h1])
  · intro x hx
    rcases List.mem_cons.1 hx with rfl | hx
    · decide
    · rcases List.mem_cons.1 hx with rfl | hx
      · decide
      · exact digs_letter (by omega) (by omega) _ x hx
  · have := digs_len (b := 16) (by omega) 15 v.toNat (by omega)
    simp only [List.length_cons]
    omega
theorem core_lx : ∀ k : Fin 4, ∃ c, Go.Lib.itoa (k.val : Int) = [c] ∧ letterB c = true ∧ 48 ≤ c.toNat ∧ c.toNat ≤ 57 := by
  have h1 : ∀ k : Fin 4, Go.Lib.itoa (k.val : Int) = [UInt8.ofNat (48 + k.val)] := by decide +kernel
  have h2 : ∀ k : Fin 4, letterB (UInt8.ofNat (48 + k.val)) = true ∧ 48 ≤ (UInt8.ofNat (48 + k.val)).toNat ∧ (UInt8.ofNat (48 + k.val)).toNat ≤ 57 := by decide +kernel
  exact fun k => ⟨_, h1 k, h2 k⟩
theorem itoa_lx {co : Int} (h0 : 0 ≤ co) (h1 : co < 4) : Lx (Go.Lib.itoa co) [(2, Go.Lib.itoa co)] := by
  obtain ⟨c, e, e1, e2, e3⟩ := core_lx ⟨co.toNat, by omega⟩
  simp only [Int.toNat_of_nonneg h0] at e
  have hp := itoa_num h0 (show co < 18446744073709551616 by omega)
  rw [e] at hp ⊢
  exact lx_num (by simpa using e1) (by simp) ⟨e2, e3⟩ (by rw [hp])
theorem reg_tx : ∀ k : Fin 31, ∃ c t, reg (k.val : Int) = c :: t ∧ (∀ x ∈ c :: t, letterB x = true) ∧ (c :: t).length ≤ 24 ∧ ¬ (48 ≤ c.toNat ∧ c.toNat ≤ 57) := by
  have h : ∀ k : Fin 31, (reg (k.val : Int)).head? = some 88 ∧ (reg (k.val : Int)).all letterB = true ∧ (reg (k.val : Int)).length ≤ 24 := by decide +kernel
  intro k
  obtain ⟨h1, h2, h3⟩ := h k
  cases e : reg (k.val : Int) with
  | nil => rw [e] at h1; cases h1
  | cons c t =>
    rw [e] at h1 h2 h3
    obtain rfl : c = 88 := by simpa using h1
    exact ⟨_, _, rfl, fun x hx => List.all_eq_true.1 h2 x hx, h3, by decide⟩
theorem reg_lx {r : Int} (h0 : 0 ≤ r) (h1 : r < 31) : Lx (reg r) [(1, reg r)] := by
  obtain ⟨c, t, e, e1, e2, e3⟩ := reg_tx ⟨r.toNat, by omega⟩
  simp only [Int.toNat_of_nonneg h0] at e
  rw [e]
  exact lx_word e1 e2 e3
theorem la_eq : La [61] [(3, [61])] := la_sign 61 (by decide)
theorem cons_app (c : UInt8) (t : Tx) : c :: t = [c] ++ t := rfl
/-- whole conditions -/
theorem lexes : ∀ c, Rt c → Lx c.pr c.tk ∧ ∃ x, c.pr.head? = some x := by
  intro c h
  have wr : ∀ (k : Int) (i : Nat) (d : Cnd), Lx d.pr d.tk → Lx (wit k i d.k d.pr) (tkW k i d.k d.tk) := fun k i d hd => by
    cases hb : wrapB k i d.k with
    | true =>
      rw [wit_yes hb, tkW_yes hb]
      exact ((la_sign 40 (by decide)).app (hd.laapp (u := [41]) rfl (by decide) (la_sign 41 (by decide)))).lx
    | false =>
      rw [wit_no hb, tkW_no hb]
      exact hd
  have hd : ∀ (k : Int) (i : Nat) (d : Cnd), (∃ x, d.pr.head? = some x) → ∀ u : Tx, ∃ x, (wit k i d.k d.pr ++ u).head? = some x := fun k i d ⟨x, hx⟩ u => by
    unfold wit
    split
    · exact ⟨40, rfl⟩
    · cases e : d.pr with
      | nil => rw [e] at hx; cases hx
      | cons y t => exact ⟨y, rfl⟩
  induction h with
  | reg co r ad va h1 h2 h3 h4 h5 h6 =>
    have e : Cnd.pr (.node 1 co r ad va []) = Go.Lib.itoa co ++ ([58] ++ (reg r ++ ([61] ++ hexT va))) := by rw [pr_leaf (.inl rfl)]; show leafT 1 co r ad va = _; unfold leafT; rw [if_pos rfl]; simp
    have e2 : Cnd.tk (.node 1 co r ad va []) = [(2, Go.Lib.itoa co)] ++ ([(3, [58])] ++ ([(1, reg r)] ++ ([(3, [61])] ++ [(2, hexT va)]))) := by rw [Cnd.tk, if_pos (.inl rfl)]; rfl
    rw [e, e2]
    have g1 : Lx ([61] ++ hexT va) ([(3, [61])] ++ [(2, hexT va)]) := la_eq.lxapp (hexT_lx h5 h6)
    have joinLx : ∀ {t u : Tx} {K M : List KT} {c : UInt8}, Lx t K → u.head? = some c → letterB c = false → Lx u M → Lx (t ++ u) (K ++ M) := fun {t u K M c} h hu hc g p r L hr h0 => by
      rw [glue] at h0
      obtain ⟨L1, h1, e1⟩ := h p (u ++ r) L (nl_app hu hc) h0
      rw [← glue, glue2] at h1
      obtain ⟨L2, h2, e2⟩ := g (p ++ t) r (L ++ L1) hr (by rw [List.length_append]; exact h1)
      refine ⟨L1 ++ L2, ?_, by rw [List.map_append, e1, e2]⟩
      rw [glue2 p t u r, ← List.append_assoc L L1 L2, show p.length + (t ++ u).length = (p ++ t).length + u.length by simp; omega]
      exact h2
    refine ⟨joinLx (itoa_lx h1 h2) rfl (by decide) ((la_sign 58 (by decide)).lxapp (joinLx (reg_lx h3 h4) rfl (by decide) g1)), ?_⟩
    obtain ⟨c, ec, _⟩ := core_lx ⟨co.toNat, by omega⟩
    simp only [Int.toNat_of_nonneg h1] at ec
    rw [ec]
    exact ⟨c, rfl⟩
  | cell co r ad va h1 h2 h3 h4 =>
    have e : Cnd.pr (.node 2 co r ad va []) = [91] ++ (hexT ad ++ ([93] ++ ([61] ++ hexT va))) := by rw [pr_leaf (.inr (.inl rfl))]; show leafT 2 co r ad va = _; unfold leafT; rw [if_neg (by decide), if_pos rfl]; simp
    have e2 : Cnd.tk (.node 2 co r ad va []) = [(3, [91])] ++ ([(2, hexT ad)] ++ ([(3, [93])] ++ ([(3, [61])] ++ [(2, hexT va)]))) := by rw [Cnd.tk, if_pos (.inr (.inl rfl))]; rfl
    rw [e, e2]
    have g0 : La (hexT ad ++ [93]) ([(2, hexT ad)] ++ [(3, [93])]) := (hexT_lx h1 h2).laapp rfl (by decide) (la_sign 93 (by decide))
    have g1 : Lx ([61] ++ hexT va) ([(3, [61])] ++ [(2, hexT va)]) := la_eq.lxapp (hexT_lx h3 h4)
    have := (la_sign 91 (by decide)).lxapp (g0.lxapp g1)
    simp only [List.append_assoc] at this
    exact ⟨this, 91, rfl⟩
  | flt co r ad va h1 h2 h3 h4 =>
    have e : Cnd.pr (.node 3 co r ad va []) = [102, 97, 117, 108, 116, 115] ++ ([32] ++ (Go.Lib.itoa co ++ ([61] ++ hexT va))) := by rw [pr_leaf (.inr (.inr (.inl rfl)))]; show leafT 3 co r ad va = _; unfold leafT; rw [if_neg (by decide), if_neg (by decide), if_pos rfl]; simp
    have e2 : Cnd.tk (.node 3 co r ad va []) = [(1, [102, 97, 117, 108, 116, 115])] ++ ([] ++ ([(2, Go.Lib.itoa co)] ++ ([(3, [61])] ++ [(2, hexT va)]))) := by rw [Cnd.tk, if_pos (.inr (.inr (.inl rfl)))]; rfl
    rw [e, e2]
    have w : Lx [102, 97, 117, 108, 116, 115] [(1, [102, 97, 117, 108, 116, 115])] := lx_word (by decide) (by decide) (by decide)
    have g0 : La ([102, 97, 117, 108, 116, 115] ++ [32]) ([(1, [102, 97, 117, 108, 116, 115])] ++ []) := w.laapp rfl (by decide) la_blank
    have g2 : La (Go.Lib.itoa co ++ [61]) ([(2, Go.Lib.itoa co)] ++ [(3, [61])]) := (itoa_lx h1 h2).laapp rfl (by decide) la_eq
    have := g0.lxapp (g2.lxapp (hexT_lx h3 h4))
    simp only [List.append_assoc] at this
    exact ⟨this, 102, rfl⟩
  | tru co r ad va =>
    have e : Cnd.pr (.node 7 co r ad va []) = [116, 114, 117, 101] := by rw [pr_leaf (.inr (.inr (.inr rfl)))]; rfl
    have e2 : Cnd.tk (.node 7 co r ad va []) = [(1, [116, 114, 117, 101])] := by rw [Cnd.tk, if_pos (.inr (.inr (.inr rfl)))]; rfl
    rw [e, e2]
    exact ⟨lx_word (by decide) (by decide) (by decide), 116, rfl⟩
  | not co r ad va d _ ih =>
    have e : Cnd.pr (.node 6 co r ad va [d]) = [126] ++ wit 6 0 d.k d.pr := pr_not (c := .node 6 co r ad va [d]) rfl rfl (by show 0 < 1; decide)
    have e2 : Cnd.tk (.node 6 co r ad va [d]) = [(3, [126])] ++ tkW 6 0 d.k d.tk := by rw [Cnd.tk, if_neg (by decide)]; rfl
    rw [e, e2]
    exact ⟨(la_sign 126 (by decide)).lxapp (wr _ _ _ ih.1), 126, rfl⟩
  | and co r ad va d f _ _ ih1 ih2 =>
    have e : Cnd.pr (.node 4 co r ad va [d, f]) = wit 4 0 d.k d.pr ++ [32] ++ [47, 92] ++ [32] ++ wit 4 1 f.k f.pr := by
      rw [pr_two (c := .node 4 co r ad va [d, f]) (.inl rfl) rfl (by show 0 < 2; decide) (by show 1 < 2; decide)]
      show wit 4 0 d.k d.pr ++ sgT 4 ++ wit 4 1 f.k f.pr = _
      simp [sgT]
    have e2 : Cnd.tk (.node 4 co r ad va [d, f]) = tkW 4 0 d.k d.tk ++ [] ++ [(3, [47, 92])] ++ [] ++ tkW 4 1 f.k f.tk := by rw [Cnd.tk, if_neg (by decide)]; simp [tkL, tkJoin, sgK]
    rw [e, e2]
    refine ⟨((((wr 4 0 d ih1.1).laapp rfl (by decide) la_blank).app la_and).app la_blank).lxapp (wr 4 1 f ih2.1), ?_⟩
    simp only [List.append_assoc]
    exact hd 4 0 d ih1.2 _
  | or co r ad va d f _ _ ih1 ih2 =>
    have e : Cnd.pr (.node 5 co r ad va [d, f]) = wit 5 0 d.k d.pr ++ [32] ++ [92, 47] ++ [32] ++ wit 5 1 f.k f.pr := by
      rw [pr_two (c := .node 5 co r ad va [d, f]) (.inr rfl) rfl (by show 0 < 2; decide) (by show 1 < 2; decide)]
      show wit 5 0 d.k d.pr ++ sgT 5 ++ wit 5 1 f.k f.pr = _
      simp [sgT]
    have e2 : Cnd.tk (.node 5 co r ad va [d, f]) = tkW 5 0 d.k d.tk ++ [] ++ [(3, [92, 47])] ++ [] ++ tkW 5 1 f.k f.tk := by rw [Cnd.tk, if_neg (by decide)]; simp [tkL, tkJoin, sgK]
    rw [e, e2]
    refine ⟨((((wr 5 0 d ih1.1).laapp rfl (by decide) la_blank).app la_or).app la_blank).lxapp (wr 5 1 f ih2.1), ?_⟩
    simp only [List.append_assoc]
    exact hd 5 0 d ih1.2 _
theorem toks_pr {c : Cnd} (h : Rt c) : ∃ T, toks c.pr c.pr.length 0 = (T, none) ∧ T.map ktOf = c.tk ++ [(4, [])] := by
  obtain ⟨L', h1, e⟩ := (lexes c h).1 [] [] [] (fun c h => by simp at h) (Tks.start ([] ++ (c.pr ++ [])))
  simp only [List.nil_append, List.append_nil, List.length_nil, Nat.zero_add] at h1
  exact ⟨L' ++ [⟨4, [], c.pr.length⟩], h1.done, by rw [List.map_append, e]; rfl⟩
theorem seg_map {T : List GrL.Tok} {K : List KT} (h : T.map ktOf = K) : Seg T 0 K := fun j hj => by
  subst h
  rw [List.length_map] at hj
  exact ⟨by omega, by simp⟩
end GrC
