/-
  Layer 6, the laws' walks: StoreLeaves.
-/
import Derived.Test.YtnpgpbcpgniloaaYg
set_option linter.unusedSimpArgs false
set_option linter.unusedVariables false
namespace Go.Proofs.Ytnpgpbcpgniloaa
open Go.RowKit Go.Shelf GrS
attribute [local go_sem] Oper.semAt_some

theorem OwnFrom.or_pure {β : Type} {B : Nat} {I : β → World → Prop} (h : OwnFrom B I) (p : β → Prop) : OwnFrom B (fun s W => I s W ∨ p s) := fun s W W' row hs hg hr => hs.elim (fun k => .inl (h s W W' row k hg hr)) .inr
def keysM (l : PL) : List Nat := l.map (·.1)
theorem keysM_nil (S : PL) : keysM [] <+: keysM S := List.nil_prefix
theorem keysM_mono {a b : PL} (h : a <+: b) : keysM a <+: keysM b := by
  obtain ⟨r, rfl⟩ := h
  exact ⟨keysM r, by unfold keysM; rw [List.map_append]⟩
theorem keysM_len (l : PL) : (keysM l).length = l.length := by unfold keysM; rw [List.length_map]
theorem keysM_step {S pre : PL} {x : Nat × Int} (h : keysM pre <+: keysM S) (hl : pre.length < S.length) (e : S[pre.length].1 = x.1) : keysM (pre ++ [x]) <+: keysM S := by
  obtain ⟨r, hr⟩ := h
  have e1 : (keysM S)[pre.length]? = some x.1 := by unfold keysM; rw [List.getElem?_map, List.getElem?_eq_getElem hl, ← e]; rfl
  rw [← hr, List.getElem?_append_right (by rw [keysM_len]; omega), keysM_len, Nat.sub_self] at e1
  cases r with
  | nil => simp at e1
  | cons a r =>
    simp only [List.getElem?_cons_zero, Option.some.injEq] at e1
    subst e1
    exact ⟨r, by rw [← hr]; unfold keysM; simp⟩
theorem keysM_no {S pre : PL} {x : Nat × Int} (_ : keysM pre <+: keysM S) (hl : pre.length < S.length) (e : S[pre.length].1 ≠ x.1) : ¬ keysM (pre ++ [x]) <+: keysM S := by
  rintro ⟨r, hr⟩
  apply e
  have e1 : (keysM S)[pre.length]? = some S[pre.length].1 := by unfold keysM; rw [List.getElem?_map, List.getElem?_eq_getElem hl]; rfl
  rw [← hr, List.getElem?_append_left (by rw [keysM_len]; simp)] at e1
  unfold keysM at e1
  rw [List.map_append, List.getElem?_append_right (by simp), List.length_map, Nat.sub_self] at e1
  simpa using e1.symm

set_option maxRecDepth 100000 in
set_option maxHeartbeats 12800000 in
theorem StoreLeaves_walk (v : Value) (S0 : OpL) (leave : Int) (w : World) (h : SlO w v S0) (hb : BdO S0) :
    Calls Try.prog 10 #[v, .int .i64 leave] w fun e w' => e = .returned (.bool true) ∧ Below w.heap.size w w' := by
  have AW := Lib.hid (fun w => awake6_any w)
  have HS := Lib.hid h
  have HB := Lib.hid hb
  clear h hb
  refine callsIn_wide (n := 6).1 ?_
  refine callsIn_of_wp_marks Try.func10 rfl trivial ?_ rfl
  simp only [Try.ntmps10, List.size_toArray, List.length_cons, List.length_nil, Nat.reduceAdd, Nat.reduceSub, Array.replicate_succ, Array.replicate_zero, List.push_toArray, List.append_toArray, List.nil_append, List.cons_append]
  refine wpIn_wide.2 ?_
  go_upto_region 1 with fail
  refine to_cls ?_
  intro U0 hU0 y0
  have r_e : ∀ z : Wb U0, Row z.at (w.heap.size) [.int .i64 leave] 3 := Row.next ((Row.new _ [.int .i64 leave] _).old _) hU0
  have r_r : ∀ z : Wb U0, Row z.at (w.heap.size + 1) [.bool false] 4 := Row.next (Row.new' _ [.bool false] _ _ (by simp)) hU0
  have KK := Lib.hid (KB.next (KB.alloc (KB.alloc (Below.refl _ _) _) _) hU0)
  clear hU0
  have c_e_0 : ∀ z : Wb U0, z.at.cell? ⟨w.heap.size, 0, none⟩ = some (.int .i64 leave) := fun z => (r_e z).cell 0
  have c_r_0 : ∀ z : Wb U0, z.at.cell? ⟨w.heap.size + 1, 0, none⟩ = some (.bool false) := fun z => (r_r z).cell 0
  go_wp2_with fail
  refine (AW.out _).mono ?_
  rintro e w1 ⟨rfl, g⟩
  obtain ⟨y1, rfl⟩ := Wb.next (x := y0) g
  clear g
  go_wp2_with fail
  refine (played_any v S0 y1.at (HS.out.below (KK.out y1)) HB.out).mono ?_
  rintro e w2 ⟨p, n, t, lv, L, rfl, ma, ow, rl, ll, g⟩
  obtain ⟨y2, rfl⟩ := Wb.next (x := y1) g
  obtain ⟨q, hq⟩ : ∃ q, q = (toLO t).length := ⟨_, rfl⟩
  have QL : q = L.length := by rw [hq, relM_len rl ma.wf]
  obtain rfl : n = (q : Int) := by rw [hq]; exact ma.n
  have MA1 := Lib.hid ma
  have OW1 := Lib.hid (show SlM y2.at lv L from SlAt.own ow)
  have SQ := rl.sorted ma.wf
  obtain ⟨S, hS⟩ : ∃ S, S = toLO t := ⟨_, rfl⟩
  have HT := Lib.hid hS
  have HQ := Lib.hid (show q = S.length by rw [hS]; exact hq)
  have q9 : q ≤ 60 := by omega
  have SO := Lib.hid (fun (U : World) (k : SlM U lv L) => sorted_any lv L U k (by omega))
  rw [SQ, ← hS, ← QL] at SO
  clear ma ow rl ll g SQ hq QL hS
  go_upto_region 4 with fail
  refine to_cls ?_
  intro U3 hU3 y3
  clear c_e_0 c_r_0
  have r_e : ∀ z : Wb U3, Row z.at (w.heap.size) [.int .i64 leave] 3 := Row.next ((r_e y2).old _) hU3
  have r_r : ∀ z : Wb U3, Row z.at (w.heap.size + 1) [.bool false] 4 := Row.next ((r_r y2).old _) hU3
  have r_m : ∀ z : Wb U3, Row z.at (y2.at.heap.size) [.pointer p, .int .i64 (q : Int)] 69 := Row.next (Row.new _ [.pointer p, .int .i64 (q : Int)] _) hU3
  have KK := Lib.hid (KB.next (KB.alloc (KK.out y2) _) hU3)
  have MA := Lib.hid (fun z : Wb U3 => (((MA1.out).below (KB.alloc (Below.refl _ _) _ : Below y2.at.heap.size y2.at _)).below hU3).below z.bel)
  have OW := Lib.hid (fun z : Wb U3 => (((OW1.out).below (KB.alloc (Below.refl _ _) _ : Below y2.at.heap.size y2.at _)).below hU3).below z.bel)
  clear hU3
  have c_e_0 : ∀ z : Wb U3, z.at.cell? ⟨w.heap.size, 0, none⟩ = some (.int .i64 leave) := fun z => (r_e z).cell 0
  have c_r_0 : ∀ z : Wb U3, z.at.cell? ⟨w.heap.size + 1, 0, none⟩ = some (.bool false) := fun z => (r_r z).cell 0
  have c_m_0 : ∀ z : Wb U3, z.at.cell? ⟨y2.at.heap.size, 0, none⟩ = some (.pointer p) := fun z => (r_m z).cell 0
  have c_m_1 : ∀ z : Wb U3, z.at.cell? ⟨y2.at.heap.size, 1, none⟩ = some (.int .i64 (q : Int)) := fun z => (r_m z).cell 1
  obtain ⟨mA, hmA⟩ : ∃ b, b = y2.at.heap.size := ⟨_, rfl⟩
  rw [← hmA] at r_m c_m_0 c_m_1
  simp only [← hmA]
  clear hmA
  clear MA1 OW1
  go_wp2_with fail
  refine (SO.out y3.at (OW.out y3)).mono ?_
  rintro e w1 ⟨v2, rfl, ow, g⟩
  have ow := own_base ow (KK.out y3).size
  obtain ⟨y4, rfl⟩ := Wb.next (x := y3) g
  obtain ⟨sp, sn, sc, rfl⟩ := SlAt.form (SlAt.own ow)
  obtain rfl : q = sn := (own_len0 ow).symm
  have OS1 := Lib.hid ow
  clear g ow SO
  have lt1 := Lib.hid (show w.heap.size + 1 < y4.at.heap.size from (r_r y4).lt)
  have TP0 := Lib.hid (MI.PS.lt (MA.out y4).at')
  go_upto_region 5 with fail
  refine to_cls ?_
  intro U5 hU5 y5
  clear c_e_0 c_r_0 c_m_0 c_m_1
  have r_e : ∀ z : Wb U5, Row z.at (w.heap.size) [.int .i64 leave] 3 := Row.next ((r_e y4).old _) hU5
  have r_r : ∀ z : Wb U5, Row z.at (w.heap.size + 1) [.bool false] 4 := Row.next ((r_r y4).old _) hU5
  have r_m : ∀ z : Wb U5, Row z.at (mA) [.pointer p, .int .i64 (q : Int)] 69 := Row.next ((r_m y4).old _) hU5
  have r_s : ∀ z : Wb U5, Row z.at (y4.at.heap.size) [.slice sp q sc] 70 := Row.next (Row.new _ [.slice sp q sc] _) hU5
  have KK := Lib.hid (KB.next (KB.alloc (KK.out y4) _) hU5)
  have MA := Lib.hid (fun z : Wb U5 => (((MA.out y4).below (KB.alloc (Below.refl _ _) _ : Below y4.at.heap.size y4.at _)).below hU5).below z.bel)
  have TP := Lib.hid (fun z : Wb U5 => (((TP0.out).below (KB.alloc (Below.refl _ _) _ : Below y4.at.heap.size y4.at _)).below hU5).below z.bel)
  have c_e_0 : ∀ z : Wb U5, z.at.cell? ⟨w.heap.size, 0, none⟩ = some (.int .i64 leave) := fun z => (r_e z).cell 0
  have c_r_0 : ∀ z : Wb U5, z.at.cell? ⟨w.heap.size + 1, 0, none⟩ = some (.bool false) := fun z => (r_r z).cell 0
  have c_m_0 : ∀ z : Wb U5, z.at.cell? ⟨mA, 0, none⟩ = some (.pointer p) := fun z => (r_m z).cell 0
  have c_m_1 : ∀ z : Wb U5, z.at.cell? ⟨mA, 1, none⟩ = some (.int .i64 (q : Int)) := fun z => (r_m z).cell 1
  have c_s_0 : ∀ z : Wb U5, z.at.cell? ⟨y4.at.heap.size, 0, none⟩ = some (.slice sp q sc) := fun z => (r_s z).cell 0
  obtain ⟨sA, hsA⟩ : ∃ b, b = y4.at.heap.size := ⟨_, rfl⟩
  rw [← hsA] at r_s c_s_0
  simp only [← hsA]
  rw [← hsA] at TP
  have OS := Lib.hid (own_below (own_below (World.ownsRow.alloc OS1.out (.cells #[.slice sp q sc] 70)) hU5) y5.bel)
  have lt1 := Lib.hid (show w.heap.size + 1 < sA by rw [hsA]; exact lt1.out)
  clear hU5 OS1 hsA TP0
  have lt2 := Lib.hid (show sA < y5.at.heap.size from (r_s y5).lt)
  have OS1 := OS
  go_upto_region 6 with fail
  refine to_cls ?_
  intro U6 hU6 y6
  clear c_e_0 c_r_0 c_m_0 c_m_1 c_s_0
  have r_e : ∀ z : Wb U6, Row z.at (w.heap.size) [.int .i64 leave] 3 := Row.next ((r_e y5).old _) hU6
  have r_r : ∀ z : Wb U6, Row z.at (w.heap.size + 1) [.bool false] 4 := Row.next ((r_r y5).old _) hU6
  have r_m : ∀ z : Wb U6, Row z.at (mA) [.pointer p, .int .i64 (q : Int)] 69 := Row.next ((r_m y5).old _) hU6
  have r_s : ∀ z : Wb U6, Row z.at (sA) [.slice sp q sc] 70 := Row.next ((r_s y5).old _) hU6
  have r_n : ∀ z : Wb U6, Row z.at (y5.at.heap.size) [.int .i64 0] 3 := Row.next (Row.new _ [.int .i64 0] _) hU6
  have KK := Lib.hid (KB.next (KB.alloc (KK.out y5) _) hU6)
  have TP := Lib.hid (fun z : Wb U6 => (((TP.out y5).below (KB.alloc (Below.refl _ _) _ : Below y5.at.heap.size y5.at _)).below hU6).below z.bel)
  have c_e_0 : ∀ z : Wb U6, z.at.cell? ⟨w.heap.size, 0, none⟩ = some (.int .i64 leave) := fun z => (r_e z).cell 0
  have c_r_0 : ∀ z : Wb U6, z.at.cell? ⟨w.heap.size + 1, 0, none⟩ = some (.bool false) := fun z => (r_r z).cell 0
  have c_m_0 : ∀ z : Wb U6, z.at.cell? ⟨mA, 0, none⟩ = some (.pointer p) := fun z => (r_m z).cell 0
  have c_m_1 : ∀ z : Wb U6, z.at.cell? ⟨mA, 1, none⟩ = some (.int .i64 (q : Int)) := fun z => (r_m z).cell 1
  have c_s_0 : ∀ z : Wb U6, z.at.cell? ⟨sA, 0, none⟩ = some (.slice sp q sc) := fun z => (r_s z).cell 0
  have c_n_0 : ∀ z : Wb U6, z.at.cell? ⟨y5.at.heap.size, 0, none⟩ = some (.int .i64 0) := fun z => (r_n z).cell 0
  obtain ⟨nA, hnA⟩ : ∃ b, b = y5.at.heap.size := ⟨_, rfl⟩
  rw [← hnA] at r_n c_n_0
  simp only [← hnA]
  have lt2 := Lib.hid (show sA < nA by rw [hnA]; exact lt2.out)
  have OS := Lib.hid (own_below (own_below (World.ownsRow.alloc OS1.out (.cells #[.int .i64 0] 3)) hU6) y6.bel)
  clear hU6 OS1 hnA
  go_wp2_with fail
  refine (MI.eachm_any p (q : Int) _).mono ?_
  rintro e w1 ⟨rfl, rfl⟩
  go_wp2_with fail
  have lt3 := Lib.hid (show nA < y6.at.heap.size from (r_n y6).lt)
  have BS := Lib.hid (show Boxed (y6.at.alloc (.cells #[.pointer p, .int .i64 (q : Int)] 69)) sA 70 (.slice sp q sc) from (r_s y6).old _)
  have BN := Lib.hid (show Boxed (y6.at.alloc (.cells #[.pointer p, .int .i64 (q : Int)] 69)) nA 3 (.int .i64 0) from (r_n y6).old _)
  have BR := Lib.hid (show Boxed (y6.at.alloc (.cells #[.pointer p, .int .i64 (q : Int)] 69)) (w.heap.size + 1) 4 (.bool false) from (r_r y6).old _)
  have BE := Lib.hid (show Boxed (y6.at.alloc (.cells #[.pointer p, .int .i64 (q : Int)] 69)) w.heap.size 3 (.int .i64 leave) from (r_e y6).old _)
  have OX := Lib.hid (World.ownsRow.alloc OS.out (.cells #[.pointer p, .int .i64 (q : Int)] 69))
  have TX := Lib.hid (show MI.PS (y6.at.alloc (.cells #[.pointer p, .int .i64 (q : Int)] 69)) (fun C => C < sA) p t from MI.PS.below (KB.alloc (Below.refl _ _) _) (TP.out y6))
  have BZ := Lib.hid (show Below w.heap.size w (y6.at.alloc (.cells #[.pointer p, .int .i64 (q : Int)] 69)) from KB.alloc (KK.out y6) _)
  have CZ := Lib.hid (show (y6.at.alloc (.cells #[.pointer p, .int .i64 (q : Int)] 69)).cell? ⟨y6.at.heap.size, 0, none⟩ = some (.pointer p) from (Row.new y6.at [.pointer p, .int .i64 (q : Int)] _).cell 0)
  obtain ⟨zS, hzS⟩ : ∃ b, b = y6.at.heap.size := ⟨_, rfl⟩
  have SW := Lib.hid (show (y6.at.alloc (.cells #[.pointer p, .int .i64 (q : Int)] 69)).heap.size = zS + 1 by rw [hzS]; simp)
  rw [← hzS] at CZ lt3 ⊢
  obtain ⟨W0, hW0⟩ : ∃ W0, W0 = (y6.at.alloc (.cells #[.pointer p, .int .i64 (q : Int)] 69)) := ⟨_, rfl⟩
  rw [← hW0] at BS BN BR BE OX TX BZ CZ SW ⊢
  clear hW0 hzS OS MA OW TP r_e r_r r_m r_s r_n c_e_0 c_r_0 c_m_0 c_m_1 c_s_0 c_n_0
  have nz := Lib.hid (show sA ≤ W0.heap.size by rw [SW.out]; have := lt2.out; have := lt3.out; omega)
  have ez := Lib.hid (show w.heap.size + 1 < sA ∧ sA < nA from ⟨lt1.out, lt2.out⟩)
  refine wpIn_wide (n := 6).1 ?_
  refine wpIn_rangeFunc_ownG (F := Fence.wide) rfl (by omega) (gf := 57) (lb := #[.pointer (some ⟨zS, 0, none⟩)]) rfl trivial (enters_of Try.func57 (by kernel_rfl) rfl)
    (MI.each_stops Fence.wide rfl (6 - 1) trivial trivial rfl zS sA p t W0 (by rw [SW.out]; omega) nz.out CZ.out TX.out) belowK_t (belowK_b nz.out) (Below.refl _ _) (fun _ => rfl)
    (fun pre W => (((((∃ v, Boxed W sA 70 v ∧ W.ownsRow w.heap.size 90 2 v q (cellsM S) ∧ v = .slice sp q sc) ∧ Boxed W nA 3 (.int .i64 (pre.length : Int))) ∧ Boxed W (w.heap.size + 1) 4 (.bool false)) ∧ Boxed W w.heap.size 3 (.int .i64 leave)) ∧ Below w.heap.size w W) ∧ keysM pre <+: keysM S)
    (fun c pre W => ((((((∃ v, Boxed W sA 70 v ∧ W.ownsRow w.heap.size 90 2 v q (cellsM S) ∧ v = .slice sp q sc) ∧ Boxed W nA 3 (.int .i64 (pre.length : Int))) ∧ Boxed W (w.heap.size + 1) 4 (.bool false)) ∧ Boxed W w.heap.size 3 (.int .i64 leave)) ∧ Below w.heap.size w W) ∧ (c = .exit 0 ∧ (pre.length : Int) = leave)) ∨ ¬ keysM pre <+: keysM S)
    (OwnFrom.and (OwnFrom.and (OwnFrom.and (OwnFrom.and (OwnFrom.and (Own.from (holdsRow_own w.heap.size sA 70 90 2 (fun _ : PL => q) (fun _ => cellsM S) (fun _ v => v = .slice sp q sc)) _) (Own.from (boxed_own nA 3 (fun pre : PL => Value.int .i64 (pre.length : Int))) _)) (Own.from (boxed_own (w.heap.size + 1) 4 (fun _ : PL => Value.bool false)) _)) (Own.from (boxed_own w.heap.size 3 (fun _ : PL => Value.int .i64 leave)) _)) (ownFrom_below (Nat.le_refl _) BZ.out.size)) (ownFrom_pure _ (fun pre : PL => keysM pre <+: keysM S)))
    (fun c => OwnFrom.or_pure (OwnFrom.and (OwnFrom.and (OwnFrom.and (OwnFrom.and (OwnFrom.and (Own.from (holdsRow_own w.heap.size sA 70 90 2 (fun _ : PL => q) (fun _ => cellsM S) (fun _ v => v = .slice sp q sc)) _) (Own.from (boxed_own nA 3 (fun pre : PL => Value.int .i64 (pre.length : Int))) _)) (Own.from (boxed_own (w.heap.size + 1) 4 (fun _ : PL => Value.bool false)) _)) (Own.from (boxed_own w.heap.size 3 (fun _ : PL => Value.int .i64 leave)) _)) (ownFrom_below (Nat.le_refl _) BZ.out.size)) (ownFrom_pure _ (fun pre : PL => c = .exit 0 ∧ (pre.length : Int) = leave))) (fun pre : PL => ¬ keysM pre <+: keysM S))
    ⟨⟨⟨⟨⟨⟨_, BS.out, OX.out, rfl⟩, BN.out⟩, BR.out⟩, BE.out⟩, BZ.out⟩, keysM_nil S⟩
    (fun x => { tmps := #[v, .int .i64 leave, undef, .pointer (some ⟨w.heap.size, 0, none⟩), .pointer (some ⟨w.heap.size + 1, 0, none⟩), .pointer (some ⟨mA, 0, none⟩), lv, .pointer (some ⟨sA, 0, none⟩), .pointer (some ⟨nA, 0, none⟩), .int .u64 (x.1 : Int), .bool true, .bool false, .tuple #[.agg #[.pointer p, .int .i64 (q : Int)], lv], v, .tuple #[.agg #[.pointer p, .int .i64 (q : Int)], lv], .agg #[.pointer p, .int .i64 (q : Int)], lv, lv, .slice sp q sc, .agg #[.pointer p, .int .i64 (q : Int)], .func (.func 57) #[] #[.pointer (some ⟨zS, 0, none⟩)], .int .u64 (x.1 : Int), .int .i64 x.2, undef, undef, undef, undef, undef, undef, undef, undef, undef, undef, undef, undef, undef, undef, undef, undef, undef, undef, undef, undef, undef, undef, undef, undef, undef, undef, undef], defers := [] }) ?assign ?body ?done ?stop
  case assign =>
    intro l x W K hK
    gi_wp2
    exact hK
  case body =>
    rintro l pre ⟨xk, xv⟩ W ⟨⟨⟨⟨⟨⟨v, hv, hrow, rfl⟩, hn⟩, hr⟩, he⟩, hB⟩, hpre⟩ hlt
    have hlt2 : pre.length < q := by rw [HQ.out, HT.out]; exact hlt
    have hlS : pre.length < S.length := by rw [← HQ.out]; exact hlt2
    rcases own_open hrow with ⟨_, h0⟩ | ⟨g, cap, e, _, hgl, hc⟩
    · omega
    injection e with e1 e2 e3
    subst e1 e3
    have HB2 := Lib.hid hB
    have HR := Lib.hid hrow
    have HV := Lib.hid hv
    have HN := Lib.hid hn
    have HRR := Lib.hid hr
    have HE := Lib.hid he
    have PS1 := Lib.hid (fun e => keysM_step (x := (xk, xv)) hpre hlS e)
    have PN1 := Lib.hid (fun e => keysM_no (x := (xk, xv)) hpre hlS e)
    have ck := hc _ _ (cellsM_get S pre.length hlS).1
    have cs := hv.cell
    have cn := hn.cell
    have fn := hn.frozen
    have cr := hr.cell
    have fr := hr.frozen
    have ce := he.cell
    obtain ⟨⟨sk, sv⟩, hsk⟩ : ∃ s, s = S[pre.length] := ⟨_, rfl⟩
    rw [← hsk] at ck PS1 PN1
    simp only at ck PS1 PN1
    have capm := (own_cap3 hrow).1
    obtain ⟨i, hi⟩ : ∃ i, i = pre.length := ⟨_, rfl⟩
    rw [← hi] at ck cn hlt2
    have HI := Lib.hid hi
    clear hsk hlt hB hrow hv hn hr he hpre hlS hc hgl
    rw [show ((pre.length : Nat) : Int) = (i : Int) by rw [hi]] at HN
    clear hi
    have i0 : (0 : Int) ≤ (i : Int) := by omega
    have i1 : (i : Int) < (q : Int) := by omega
    have i2 : (q : Int) ≤ 60 := by omega
    have dq : decide ((q : Int) ≤ (i : Int)) = false := by simp; omega
    have dq2 : decide (q ≤ i) = false := by simp; omega
    have IV := Lib.hid (fun u : Value => (show (((((Boxed (W.setCell ⟨nA, 0, none⟩ u) sA 70 (.slice (some ⟨g, 0, none⟩) q sc) ∧ (W.setCell ⟨nA, 0, none⟩ u).ownsRow w.heap.size 90 2 (.slice (some ⟨g, 0, none⟩) q sc) q (cellsM S)) ∧ Boxed (W.setCell ⟨nA, 0, none⟩ u) nA 3 u) ∧ Boxed (W.setCell ⟨nA, 0, none⟩ u) (w.heap.size + 1) 4 (.bool false)) ∧ Boxed (W.setCell ⟨nA, 0, none⟩ u) w.heap.size 3 (.int .i64 leave)) ∧ Below w.heap.size w (W.setCell ⟨nA, 0, none⟩ u)) from
      ⟨⟨⟨⟨⟨HV.out.other (by have := ez.out; omega) _, HR.out.kept (grownBy_setCell' W nA _) (Or.inr fun e => HN.out.not_row (by decide) HR.out e.symm)⟩, HN.out.set _⟩, HRR.out.other (by have := ez.out; omega) _⟩, HE.out.other (by have := ez.out; omega) _⟩, HB2.out.setCell (p := ⟨nA, 0, none⟩) (by have := ez.out; show w.heap.size ≤ nA; omega) _⟩))
    by_cases ek : sk = xk
    · have bk : ((sk : Int) != (xk : Int)) = false := by simp [ek]
      have PP := Lib.hid (PS1.out ek)
      have LN := Lib.hid (show (((pre ++ [(xk, xv)]).length : Nat) : Int) = (i : Int) + 1 by rw [List.length_append, ← HI.out]; rfl)
      have ce2 := Boxed.cell (IV.out (.int .i64 ((i : Int) + 1))).1.2
      by_cases el : (i : Int) + 1 = leave
      · have bl : ((i : Int) + 1 == leave) = true := by simp [el]
        have EL := Lib.hid el
        clear ek PS1 PN1 el
        gi_wp2
        exact ⟨(KeepsOthers.setCell _ _ _).from _, .inl ⟨by rw [LN.out]; exact IV.out _, rfl, by rw [LN.out]; exact EL.out⟩⟩
      · have bl : ((i : Int) + 1 == leave) = false := by simp [el]
        clear ek PS1 PN1 el
        gi_wp2
        exact ⟨(KeepsOthers.setCell _ _ _).from _, (Below.refl _ _).setCell (p := ⟨nA, 0, none⟩) (by have := ez.out; show sA ≤ nA; omega) _, by rw [LN.out]; exact IV.out _, PP.out⟩
    · have bk : ((sk : Int) != (xk : Int)) = true := by simp; omega
      have PP := Lib.hid (PN1.out ek)
      clear ek PS1 PN1
      gi_wp2
      exact ⟨(KeepsOthers.setCell _ _ _).from _, .inr PP.out⟩
  case done =>
    rintro D ys W hD rfl ⟨⟨⟨⟨⟨⟨v, hv, hrow, rfl⟩, hn⟩, hr⟩, he⟩, hB⟩, hpre⟩ hK
    rw [← HT.out, ← HQ.out] at hn
    have cs := hv.cell
    have cn := hn.cell
    have ce := he.cell
    have cr := hr.cell
    have fr := hr.frozen
    have HB := Lib.hid hB
    have HRR := Lib.hid hr
    have HKD := Lib.hid hK
    clear hrow hpre hB hr hn hv he hK
    by_cases el : (q : Int) = leave
    · subst el
      go_wp2
      have D9 : (W.setCell ⟨w.heap.size + 1, 0, none⟩ (.bool true)).heap[D]? = some (.deferred (some [])) := (heap_setCell_other _ _ _ _ (by have := ez.out; have := nz.out; show D ≠ w.heap.size + 1; omega)).trans HKD.out
      have B9 : Boxed ((W.setCell ⟨w.heap.size + 1, 0, none⟩ (.bool true)).putObj D (.deferred none)) (w.heap.size + 1) 4 (.bool true) := (HRR.out.set (.bool true)).kept (grownBy_putObj' _ _ _) (by have := ez.out; have := nz.out; simp only [ne_eq, Option.some.injEq]; omega)
      have c9 := B9.cell
      refine ⟨by simp, .inl ⟨_, _, rfl, run_takeDeferred D9, ?_⟩⟩
      refine ⟨.bool true, by simp [results, Try.results10, go_sem, c9], ?_⟩
      exact ⟨rfl, (HB.out.setCell (p := ⟨w.heap.size + 1, 0, none⟩) (by show w.heap.size ≤ w.heap.size + 1; omega) _).trans (belowK_b (w := w) (Nat.le_refl _) _ D _ _ (Nat.le_trans BZ.out.size hD) D9 rfl rfl)⟩
    · have bl : ((q : Int) == leave) = false := by simp [el]
      clear el
      go_wp2
      have D9 : (W.setCell ⟨w.heap.size + 1, 0, none⟩ (.bool true)).heap[D]? = some (.deferred (some [])) := (heap_setCell_other _ _ _ _ (by have := ez.out; have := nz.out; show D ≠ w.heap.size + 1; omega)).trans HKD.out
      have B9 : Boxed ((W.setCell ⟨w.heap.size + 1, 0, none⟩ (.bool true)).putObj D (.deferred none)) (w.heap.size + 1) 4 (.bool true) := (HRR.out.set (.bool true)).kept (grownBy_putObj' _ _ _) (by have := ez.out; have := nz.out; simp only [ne_eq, Option.some.injEq]; omega)
      have c9 := B9.cell
      refine ⟨by simp, .inl ⟨_, _, rfl, run_takeDeferred D9, ?_⟩⟩
      refine ⟨.bool true, by simp [results, Try.results10, go_sem, c9], ?_⟩
      exact ⟨rfl, (HB.out.setCell (p := ⟨w.heap.size + 1, 0, none⟩) (by show w.heap.size ≤ w.heap.size + 1; omega) _).trans (belowK_b (w := w) (Nat.le_refl _) _ D _ _ (Nat.le_trans BZ.out.size hD) D9 rfl rfl)⟩
  case stop =>
    rintro D c pre W hD hSp (⟨⟨⟨⟨⟨⟨v, hv, hrow, rfl⟩, hn⟩, hr⟩, he⟩, hB⟩, rfl, el⟩ | hno) hK
    · obtain ⟨i, hi⟩ : ∃ i : Int, i = (pre.length : Int) := ⟨_, rfl⟩
      rw [← hi] at hn el
      subst el
      have cs := hv.cell
      have cn := hn.cell
      have ce := he.cell
      have cr := hr.cell
      have fr := hr.frozen
      have HB := Lib.hid hB
      have HRR := Lib.hid hr
      have HKD := Lib.hid hK
      clear hrow hB hr hn hv he hK hi hSp
      refine wpIn_wide.2 ?_
      go_wp2
      have D9 : (W.setCell ⟨w.heap.size + 1, 0, none⟩ (.bool true)).heap[D]? = some (.deferred (some [])) := (heap_setCell_other _ _ _ _ (by have := ez.out; have := nz.out; show D ≠ w.heap.size + 1; omega)).trans HKD.out
      have B9 : Boxed ((W.setCell ⟨w.heap.size + 1, 0, none⟩ (.bool true)).putObj D (.deferred none)) (w.heap.size + 1) 4 (.bool true) := (HRR.out.set (.bool true)).kept (grownBy_putObj' _ _ _) (by have := ez.out; have := nz.out; simp only [ne_eq, Option.some.injEq]; omega)
      have c9 := B9.cell
      refine ⟨by simp, .inl ⟨_, _, rfl, run_takeDeferred D9, ?_⟩⟩
      refine ⟨.bool true, by simp [results, Try.results10, go_sem, c9], ?_⟩
      exact ⟨rfl, (HB.out.setCell (p := ⟨w.heap.size + 1, 0, none⟩) (by show w.heap.size ≤ w.heap.size + 1; omega) _).trans (belowK_b (w := w) (Nat.le_refl _) _ D _ _ (Nat.le_trans BZ.out.size hD) D9 rfl rfl)⟩
    · exact absurd (by rw [HT.out]; exact keysM_mono hSp) hno
theorem StoreLeaves_rows (v : Value) (n : Nat) (R : Nat → List Value) (a : Int) (w : World) (s : SlAt w v 3 n ((List.range n).flatMap R)) (g : ∀ i, i < n → ∃ q : Bool × Nat × Int, R i = [.bool q.1, .int .u64 (q.2.1 : Int), .int .i64 q.2.2] ∧ q.2.1 < 18446744073709551616) :
    Calls Try.prog 10 #[v, .int .i64 a] w fun e w' => e = .returned (.bool true) ∧ Below w.heap.size w w' := by
  obtain ⟨S, hS, hB⟩ := SlO_rows s g
  exact StoreLeaves_walk v S a w hS hB
end Go.Proofs.Ytnpgpbcpgniloaa
