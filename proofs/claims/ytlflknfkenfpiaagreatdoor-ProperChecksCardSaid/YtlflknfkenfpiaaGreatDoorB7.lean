/-
  Texts of one claim, merged.
-/
import Derived.Test.YtlflknfkenfpiaaGreatDoorRows
import Derived.Test.YtlflknfkenfpiaaGreatDoorB1
import Derived.LoopTactic
set_option linter.unusedSimpArgs false
set_option linter.unusedVariables false
namespace GrC
open Go
inductive Cnd where
  | node (k co r ad va : Int) (args : List Cnd)
def Cnd.k : Cnd → Int | .node k _ _ _ _ _ => k
def Cnd.co : Cnd → Int | .node _ co _ _ _ _ => co
def Cnd.r : Cnd → Int | .node _ _ r _ _ _ => r
def Cnd.ad : Cnd → Int | .node _ _ _ ad _ _ => ad
def Cnd.va : Cnd → Int | .node _ _ _ _ va _ => va
def Cnd.args : Cnd → List Cnd | .node _ _ _ _ _ ts => ts
mutual
def Cnd.cnt : Cnd → Nat
  | .node _ _ _ _ _ ts => 1 + cntL ts
def cntL : List Cnd → Nat
  | [] => 0
  | a :: ts => a.cnt + cntL ts
end
def arity (k : Int) : Int := if k = 1 ∨ k = 2 ∨ k = 3 ∨ k = 7 then 0 else if k = 6 then 1 else if k = 4 ∨ k = 5 then 2 else -1
mutual
def Cnd.right (cores : Int) : Cnd → Nat
  | .node k co r _ _ ts => if (ts.length : Int) ≠ arity k ∨ (k = 1 ∧ (r < 0 ∨ 31 ≤ r)) then 1 else if (k = 1 ∨ k = 3) ∧ (co < 0 ∨ cores ≤ co) then 131 else rightL cores ts
def rightL (cores : Int) : List Cnd → Nat
  | [] => 0
  | a :: ts => if a.right cores ≠ 0 then a.right cores else rightL cores ts
end
def Cnd.rightly (cores : Int) (c : Cnd) : Nat := if 64 < c.cnt then 120 else c.right cores
mutual
def Cnd.small : Nat → Cnd → Bool
  | 0, _ => false
  | d + 1, .node _ _ _ _ _ ts => decide (ts.length ≤ 6) && smallL d ts
def smallL : Nat → List Cnd → Bool
  | _, [] => true
  | d, a :: ts => a.small d && smallL d ts
end
structure Out where
  regs : List (List Int)
  flts : List Nat
  cells : List (Int × Int)
def cellOf (L : List (Int × Int)) (a : Int) : Int := ((L.reverse.find? fun p => decide (p.1 = a)).map Prod.snd).getD 0
def leafB (o : Out) (k co r ad va : Int) : Bool :=
  if k = 1 then decide (0 ≤ co ∧ 0 ≤ r ∧ (o.regs[co.toNat]?.bind fun l => l[r.toNat]?) = some va)
  else if k = 2 then decide (cellOf o.cells ad = va)
  else if k = 3 then decide (0 ≤ co ∧ (o.flts[co.toNat]?.map fun n => (n : Int)) = some va)
  else decide (k = 7)
mutual
def Cnd.holds (o : Out) : Cnd → Bool
  | .node k co r ad va ts =>
    if k = 6 then decide (ts.length = 1) && !anyL o ts
    else if k = 4 then decide (ts.length = 2) && allL o ts
    else if k = 5 then decide (ts.length = 2) && anyL o ts
    else leafB o k co r ad va
def allL (o : Out) : List Cnd → Bool
  | [] => true
  | a :: ts => a.holds o && allL o ts
def anyL (o : Out) : List Cnd → Bool
  | [] => false
  | a :: ts => a.holds o || anyL o ts
end
theorem cnt_pos (c : Cnd) : 1 ≤ c.cnt := by
  cases c
  rw [Cnd.cnt]
  omega
theorem arity_eq (k : Int) (n : Nat) : ((n : Int) = arity k) = (((k = 1 ∨ k = 2 ∨ k = 3 ∨ k = 7) ∧ n = 0) ∨ (k = 6 ∧ n = 1) ∨ ((k = 4 ∨ k = 5) ∧ n = 2)) := by
  unfold arity
  apply propext
  split
  · constructor
    · intro h; exact .inl ⟨by assumption, by omega⟩
    · rintro (⟨_, rfl⟩ | ⟨rfl, _⟩ | ⟨h, _⟩) <;> omega
  · split
    · constructor
      · intro h; exact .inr (.inl ⟨by assumption, by omega⟩)
      · rintro (⟨_, rfl⟩ | ⟨rfl, rfl⟩ | ⟨h, _⟩) <;> omega
    · split
      · constructor
        · intro h; exact .inr (.inr ⟨by assumption, by omega⟩)
        · rintro (⟨h, rfl⟩ | ⟨rfl, _⟩ | ⟨h, rfl⟩) <;> omega
      · constructor
        · intro h; omega
        · rintro (⟨h, rfl⟩ | ⟨rfl, _⟩ | ⟨h, _⟩) <;> omega
end GrC
namespace Go.Proofs.YtlflknfkenfpiaaGreatDoor
open Go.RowKit GrC
mutual
def CAt (W : World) : Cnd → List Value → Prop
  | .node k co r ad va ts, cs => ∃ p n c, cs = [.int .i64 k, .int .i64 co, .int .i64 r, .int .u64 ad, .int .u64 va, .slice p n c] ∧ n = ts.length ∧ LAt W ts p 0
def LAt (W : World) : List Cnd → Option Addr → Nat → Prop
  | [], _, _ => True
  | t :: us, p, i => (∃ a cs, p = some a ∧ (∀ r u, cs[r]? = some u → W.cell? (a.add (i * 6 + r)) = some u) ∧ CAt W t cs) ∧ LAt W us p (i + 1)
end
mutual
theorem CAt.keep {W U : World} (k : ∀ (a : Addr) u, W.cell? a = some u → U.cell? a = some u) : ∀ (c : Cnd) (cs : List Value), CAt W c cs → CAt U c cs
  | .node k0 co r ad va ts, cs, h => by
    rw [CAt] at h ⊢
    obtain ⟨p, n, c, e, hn, hl⟩ := h
    exact ⟨p, n, c, e, hn, LAt.keep k ts p 0 hl⟩
theorem LAt.keep {W U : World} (k : ∀ (a : Addr) u, W.cell? a = some u → U.cell? a = some u) : ∀ (ts : List Cnd) (p : Option Addr) (i : Nat), LAt W ts p i → LAt U ts p i
  | [], p, i, h => by rw [LAt]; trivial
  | t :: us, p, i, h => by
    rw [LAt] at h ⊢
    obtain ⟨⟨a, cs, e, hc, ht⟩, hr⟩ := h
    exact ⟨⟨a, cs, e, fun r u hu => k _ _ (hc r u hu), CAt.keep k t cs ht⟩, LAt.keep k us p (i + 1) hr⟩
end
theorem keep_below {W U : World} (k : Below W.heap.size W U) : ∀ (a : Addr) u, W.cell? a = some u → U.cell? a = some u := fun a u h => (k.cell (p := a) (World.block_lt_of_cell? W _ h)).trans h
theorem CAt.below {W U : World} {c : Cnd} {cs : List Value} (h : CAt W c cs) (k : Below W.heap.size W U) : CAt U c cs := CAt.keep (keep_below k) c cs h
theorem LAt.below {W U : World} {ts : List Cnd} {p : Option Addr} {i : Nat} (h : LAt W ts p i) (k : Below W.heap.size W U) : LAt U ts p i := LAt.keep (keep_below k) ts p i h
theorem LAt.at {W : World} {p : Option Addr} : ∀ (ts : List Cnd) (i : Nat), LAt W ts p i → ∀ j (h : j < ts.length), ∃ a cs, p = some a ∧ (∀ r u, cs[r]? = some u → W.cell? (a.add ((i + j) * 6 + r)) = some u) ∧ CAt W ts[j] cs
  | [], i, h, j, hj => by simp at hj
  | t :: us, i, h, 0, hj => by
    rw [LAt] at h
    obtain ⟨⟨a, cs, e, hc, ht⟩, hr⟩ := h
    exact ⟨a, cs, e, by simpa using hc, ht⟩
  | t :: us, i, h, j + 1, hj => by
    rw [LAt] at h
    obtain ⟨a, cs, e, hc, ht⟩ := LAt.at us (i + 1) h.2 j (by simpa using hj)
    refine ⟨a, cs, e, fun r u hu => ?_, ht⟩
    have := hc r u hu
    rwa [show i + 1 + j = i + (j + 1) by omega] at this
theorem LAt.mk {W : World} {a : Addr} : ∀ (ts : List Cnd) (i : Nat), (∀ j (h : j < ts.length), ∃ cs, (∀ r u, cs[r]? = some u → W.cell? (a.add ((i + j) * 6 + r)) = some u) ∧ CAt W ts[j] cs) → LAt W ts (some a) i
  | [], i, _ => by rw [LAt]; trivial
  | t :: us, i, h => by
    rw [LAt]
    obtain ⟨cs, hc, ht⟩ := h 0 (by simp)
    refine ⟨⟨a, cs, rfl, by simpa using hc, ht⟩, LAt.mk us (i + 1) fun j hj => ?_⟩
    obtain ⟨cs, hc, ht⟩ := h (j + 1) (by simpa using hj)
    refine ⟨cs, fun r u hu => ?_, ht⟩
    have := hc r u hu
    rwa [show i + 1 + j = i + (j + 1) by omega]
theorem LAt.cells {W : World} {a : Addr} {ts : List Cnd} (h : LAt W ts (some a) 0) (j : Nat) (hj : j < ts.length) : ∃ p n c, n = ts[j].args.length ∧ LAt W ts[j].args p 0 ∧ W.cell? (a.add (j * 6)) = some (.int .i64 ts[j].k) ∧ W.cell? ⟨(a.add (j * 6)).block, (a.add (j * 6)).off + 1, none⟩ = some (.int .i64 ts[j].co) ∧ W.cell? ⟨(a.add (j * 6)).block, (a.add (j * 6)).off + 2, none⟩ = some (.int .i64 ts[j].r) ∧ W.cell? ⟨(a.add (j * 6)).block, (a.add (j * 6)).off + 3, none⟩ = some (.int .u64 ts[j].ad) ∧ W.cell? ⟨(a.add (j * 6)).block, (a.add (j * 6)).off + 4, none⟩ = some (.int .u64 ts[j].va) ∧ W.cell? ⟨(a.add (j * 6)).block, (a.add (j * 6)).off + 5, none⟩ = some (.slice p n c) := by
  obtain ⟨b, cs, e, hc, ht⟩ := LAt.at ts 0 h j hj
  cases e
  rw [Nat.zero_add] at hc
  obtain ⟨x, hx⟩ : ∃ x, x = ts[j] := ⟨_, rfl⟩
  rw [← hx] at ht ⊢
  obtain ⟨k0, co, r, ad, va, ts'⟩ := x
  rw [CAt] at ht
  obtain ⟨p, n, c, rfl, hn, hl⟩ := ht
  have hr : ∀ r, 0 < r → (⟨(a.add (j * 6)).block, (a.add (j * 6)).off + r, none⟩ : Addr) = a.add (j * 6 + r) := fun r h => by
    rw [← add_add]
    obtain ⟨y, hy⟩ : ∃ y, y = a.add (j * 6) := ⟨_, rfl⟩
    rw [← hy]
    unfold Addr.add
    rw [if_neg (by omega)]
  exact ⟨p, n, c, hn, hl, hc 0 _ rfl, by rw [hr 1 (by omega)]; exact hc 1 _ rfl, by rw [hr 2 (by omega)]; exact hc 2 _ rfl, by rw [hr 3 (by omega)]; exact hc 3 _ rfl, by rw [hr 4 (by omega)]; exact hc 4 _ rfl, by rw [hr 5 (by omega)]; exact hc 5 _ rfl⟩
end Go.Proofs.YtlflknfkenfpiaaGreatDoor
namespace GrC
theorem cntL_sum : ∀ ts : List Cnd, cntL ts = (ts.map Cnd.cnt).sum
  | [] => rfl
  | t :: us => by rw [cntL, List.map_cons, List.sum_cons, cntL_sum us]
theorem cnt_args (c : Cnd) : c.cnt = 1 + (c.args.map Cnd.cnt).sum := by
  cases c
  rw [Cnd.cnt, cntL_sum]
  rfl
theorem sum_take (ts : List Cnd) (j : Nat) (h : j < ts.length) : ((ts.take (j + 1)).map Cnd.cnt).sum = ((ts.take j).map Cnd.cnt).sum + ts[j].cnt := by
  rw [List.take_succ_eq_append_getElem h, List.map_append, List.sum_append]
  simp only [List.map_cons, List.map_nil, List.sum_cons, List.sum_nil, Nat.add_zero]
theorem sum_le (ts : List Cnd) (j : Nat) : ((ts.take j).map Cnd.cnt).sum ≤ (ts.map Cnd.cnt).sum := by
  have := List.take_append_drop j ts
  have h2 := congrArg (fun l => (l.map Cnd.cnt).sum) this
  simp only [List.map_append, List.sum_append] at h2
  omega
theorem mem_cnt {ts : List Cnd} {j : Nat} (h : j < ts.length) : ts[j].cnt ≤ (ts.map Cnd.cnt).sum := by
  have h1 := sum_take ts j h
  have h2 := sum_le ts (j + 1)
  omega
theorem len_sum : ∀ ts : List Cnd, ts.length ≤ (ts.map Cnd.cnt).sum
  | [] => by simp
  | t :: us => by
    have := len_sum us
    have := cnt_pos t
    simp only [List.map_cons, List.sum_cons, List.length_cons]
    omega
end GrC
namespace Go.Proofs.YtlflknfkenfpiaaGreatDoor
open Go.RowKit GrC
theorem LAt.addr {W : World} {ts : List Cnd} {p : Option Addr} (h : LAt W ts p 0) (j : Nat) (hj : j < ts.length) : ∃ a, p = some a := by
  obtain ⟨a, _, e, _⟩ := LAt.at ts 0 h j hj
  exact ⟨a, e⟩
end Go.Proofs.YtlflknfkenfpiaaGreatDoor
namespace Go.Proofs.YtlflknfkenfpiaaGreatDoor
open Go.RowKit GrC
set_option maxRecDepth 100000 in
set_option maxHeartbeats 3200000 in
theorem counted_any (N : Nat) (H : ∀ (c : Cnd) (p : Option Addr) (n q : Nat) (w : World), c.cnt ≤ N → n = c.args.length → LAt w c.args p 0 → Calls Tryz.prog 34 #[.agg #[.int .i64 c.k, .int .i64 c.co, .int .i64 c.r, .int .u64 c.ad, .int .u64 c.va, .slice p n q]] w fun e w' => e = .returned (.int .i64 (c.cnt : Int)) ∧ Below w.heap.size w w') (ts : List Cnd) (p : Option Addr) (n q : Nat) (w : World) (ht : ∀ t ∈ ts, t.cnt ≤ N) (hn : n = ts.length) (hl : LAt w ts p 0) (hs : (ts.map Cnd.cnt).sum ≤ 1099511627776) :
    Calls Tryz.prog 56 #[.slice p n q] w fun e w' => e = .returned (.int .i64 (((ts.map Cnd.cnt).sum : Nat) : Int)) ∧ Below w.heap.size w w' := by
  have HN := Lib.hid hn
  have HL := Lib.hid hl
  have HT := Lib.hid ht
  have HS := Lib.hid hs
  have HH := Lib.hid H
  have g9 : (n : Int) ≤ 1099511627776 := by have := len_sum ts; omega
  clear hn hl ht hs H
  go_enter Tryz.func56, Tryz.ntmps56
  go_wp2_with fail
  go_loopw [3, 8] (fun sv iv wr => ∃ (j : Nat) (z : Wb w), j ≤ n ∧ iv = .int .i64 (j : Int) ∧ sv = .int .i64 ((((ts.take j).map Cnd.cnt).sum : Nat) : Int) ∧ wr = z.at) (fun _ iv _ => n - (intOf iv).toNat)
  case atStart => exact ⟨0, ⟨w, Below.refl _ _⟩, by omega, rfl, rfl, rfl⟩
  case round =>
    obtain ⟨j, z, hj, rfl, rfl, rfl⟩ := hrel
    have j0 : (0 : Int) ≤ (j : Int) := by omega
    by_cases cj : j < n
    · have j1 : (j : Int) < (n : Int) := by omega
      have l1 : j < ts.length := by have := HN.out; omega
      obtain ⟨a, rfl⟩ := (HL.out.below z.bel).addr j l1
      obtain ⟨p2, n2, q2, hn2, hl2, e0, e1, e2, e3, e4, e5⟩ := (HL.out.below z.bel).cells j l1
      have CA := Lib.hid (fun w1 (h : LAt w1 (ts[j]'l1).args p2 0) => HH.out (ts[j]'l1) p2 n2 q2 w1 (HT.out _ (List.getElem_mem l1)) hn2 h)
      obtain ⟨x0, hx0⟩ : ∃ x, x = (ts[j]'l1).k := ⟨_, rfl⟩
      obtain ⟨x1, hx1⟩ : ∃ x, x = (ts[j]'l1).co := ⟨_, rfl⟩
      obtain ⟨x2, hx2⟩ : ∃ x, x = (ts[j]'l1).r := ⟨_, rfl⟩
      obtain ⟨x3, hx3⟩ : ∃ x, x = (ts[j]'l1).ad := ⟨_, rfl⟩
      obtain ⟨x4, hx4⟩ : ∃ x, x = (ts[j]'l1).va := ⟨_, rfl⟩
      rw [← hx0] at e0
      rw [← hx1] at e1
      rw [← hx2] at e2
      rw [← hx3] at e3
      rw [← hx4] at e4
      rw [← hx0, ← hx1, ← hx2, ← hx3, ← hx4] at CA
      clear hx0 hx1 hx2 hx3 hx4
      have L2 := Lib.hid hl2
      have ST := sum_take ts j l1
      have SL := sum_le ts (j + 1)
      obtain ⟨s0, hs0⟩ : ∃ s, s = ((ts.take j).map Cnd.cnt).sum := ⟨_, rfl⟩
      obtain ⟨d, hd⟩ : ∃ d, d = (ts[j]'l1).cnt := ⟨_, rfl⟩
      rw [← hs0, ← hd] at ST
      rw [← hs0]
      rw [← hd] at CA
      have S9 : (s0 : Int) + (d : Int) ≤ 1099511627776 := by have := HS.out; omega
      have s00 : (0 : Int) ≤ (s0 : Int) := by omega
      have d00 : (0 : Int) ≤ (d : Int) := by omega
      have ST := Lib.hid ST
      have JI := Lib.hid (show j + 1 ≤ n by omega)
      clear hs0 hd hn2 hl2 hj cj SL
      go_upto_region 5 with fail
      refine to_cls ?_
      intro U1 hU1 y1
      have r_c : ∀ y : Wb U1, Row y.at z.at.heap.size [.int .i64 x0, .int .i64 x1, .int .i64 x2, .int .u64 x3, .int .u64 x4, .slice p2 n2 q2] 27 := Row.next (Row.new _ [.int .i64 x0, .int .i64 x1, .int .i64 x2, .int .u64 x3, .int .u64 x4, .slice p2 n2 q2] _) hU1
      have BU := Lib.hid (fun y : Wb U1 => show Below z.at.heap.size z.at y.at from (((Below.refl z.at.heap.size z.at).alloc (Nat.le_refl _) _).trans (hU1.mono (by simp))).trans (y.bel.mono (by have := hU1.size; simp at this; omega)))
      clear hU1 e0 e1 e2 e3 e4 e5
      have e0 := fun y : Wb U1 => (r_c y).cell 0
      have e1 := fun y : Wb U1 => (r_c y).cell 1
      have e2 := fun y : Wb U1 => (r_c y).cell 2
      have e3 := fun y : Wb U1 => (r_c y).cell 3
      have e4 := fun y : Wb U1 => (r_c y).cell 4
      have e5 := fun y : Wb U1 => (r_c y).cell 5
      simp only [List.getElem?_cons_zero, List.getElem?_cons_succ] at e0 e1 e2 e3 e4 e5
      have CB := Lib.hid (CA.out y1.at (L2.out.below (BU.out y1)))
      clear r_c CA
      go_wp2_with (go_at_call 34; refine CB.out.mono ?_; rintro e w9 ⟨rfl, g⟩; obtain ⟨x9, rfl⟩ := Wb.next g; clear g)
      go_roundw
      case rel => exact ⟨j + 1, ⟨x9.at, z.bel.trans ((BU.out x9).mono z.bel.size)⟩, JI.out, by go_num, by rw [ST.out, Int.natCast_add], rfl⟩
      case measure => have := JI.out; simp [intOf]; omega
    · obtain rfl : j = n := by omega
      have E := Lib.hid (show ((ts.take j).map Cnd.cnt).sum = (ts.map Cnd.cnt).sum by rw [List.take_of_length_le (by have := HN.out; omega)])
      rw [E.out]
      clear hj cj
      go_wp2
      go_ret
      exact ⟨rfl, z.bel⟩
set_option maxRecDepth 100000 in
set_option maxHeartbeats 3200000 in
theorem count_any : ∀ (N : Nat), N ≤ 1099511627776 → ∀ (c : Cnd) (p : Option Addr) (n q : Nat) (w : World), c.cnt ≤ N → n = c.args.length → LAt w c.args p 0 → Calls Tryz.prog 34 #[.agg #[.int .i64 c.k, .int .i64 c.co, .int .i64 c.r, .int .u64 c.ad, .int .u64 c.va, .slice p n q]] w fun e w' => e = .returned (.int .i64 (c.cnt : Int)) ∧ Below w.heap.size w w' := by
  intro N
  induction N with
  | zero => intro _ c p n q w hc; have := cnt_pos c; omega
  | succ N ih =>
    intro hN c p n q w hc hn hl
    obtain ⟨ts, hts⟩ : ∃ ts, ts = c.args := ⟨_, rfl⟩
    have CC := cnt_args c
    rw [← hts] at hn hl CC
    have CD := Lib.hid (fun w1 (h : LAt w1 ts p 0) => counted_any N (ih (by omega)) ts p n q w1 (fun t ht => by
      obtain ⟨i, hi, rfl⟩ := List.getElem_of_mem ht
      have := mem_cnt hi
      omega) hn h (by omega))
    obtain ⟨s, hs⟩ : ∃ s, s = (ts.map Cnd.cnt).sum := ⟨_, rfl⟩
    rw [← hs] at CC CD
    have s9 : (s : Int) ≤ 1099511627776 := by omega
    have s0 : (0 : Int) ≤ (s : Int) := by omega
    have E := Lib.hid CC
    clear ih hN hc CC hs hts hn
    go_enter Tryz.func34, Tryz.ntmps34
    go_upto_region 1 with fail
    refine to_cls ?_
    intro U0 hU0 y0
    have r_c : ∀ z : Wb U0, Row z.at w.heap.size [.int .i64 c.k, .int .i64 c.co, .int .i64 c.r, .int .u64 c.ad, .int .u64 c.va, .slice p n q] 27 := Row.next (Row.new _ [.int .i64 c.k, .int .i64 c.co, .int .i64 c.r, .int .u64 c.ad, .int .u64 c.va, .slice p n q] _) hU0
    have KK := Lib.hid (KB.next (KB.alloc (Below.refl w.heap.size w) _) hU0)
    clear hU0
    have c_0 := fun z : Wb U0 => (r_c z).cell 0
    have c_1 := fun z : Wb U0 => (r_c z).cell 1
    have c_2 := fun z : Wb U0 => (r_c z).cell 2
    have c_3 := fun z : Wb U0 => (r_c z).cell 3
    have c_4 := fun z : Wb U0 => (r_c z).cell 4
    have c_5 := fun z : Wb U0 => (r_c z).cell 5
    simp only [List.getElem?_cons_zero, List.getElem?_cons_succ] at c_0 c_1 c_2 c_3 c_4 c_5
    have LU := Lib.hid (fun z : Wb U0 => hl.below (KK.out z))
    clear r_c
    obtain ⟨pC, hpC⟩ : ∃ b, b = w.heap.size := ⟨_, rfl⟩
    rw [← hpC] at c_0 c_1 c_2 c_3 c_4 c_5
    simp only [← hpC]
    clear hpC hl
    go_wp2_with (go_at_call 56; refine (CD.out _ (LU.out y0)).mono ?_; rintro e w9 ⟨rfl, g⟩; obtain ⟨x9, rfl⟩ := Wb.next g; clear g)
    go_ret
    exact ⟨by rw [E.out, Int.natCast_add]; rfl, KK.out x9⟩
set_option maxRecDepth 100000 in
set_option maxHeartbeats 3200000 in
theorem rcount_any : ∀ (N : Nat), N ≤ 1099511627776 → ∀ (c : Cnd) (p : Option Addr) (n q : Nat) (w : World), c.cnt ≤ N → n = c.args.length → LAt w c.args p 0 → Calls Tryz.prog 37 #[.agg #[.int .i64 c.k, .int .i64 c.co, .int .i64 c.r, .int .u64 c.ad, .int .u64 c.va, .slice p n q]] w fun e w' => e = .returned (.int .i64 (c.cnt : Int)) ∧ Below w.heap.size w w' := by
  intro N
  induction N with
  | zero => intro _ c p n q w hc; have := cnt_pos c; omega
  | succ N ih =>
    intro hN c p n q w hc hn hl
    obtain ⟨ts, hts⟩ : ∃ ts, ts = c.args := ⟨_, rfl⟩
    have CC := cnt_args c
    rw [← hts] at hn hl CC
    have HH := Lib.hid (ih (by omega))
    have HT := Lib.hid (show ∀ t ∈ ts, t.cnt ≤ N from fun t ht => by
      obtain ⟨i, hi, rfl⟩ := List.getElem_of_mem ht
      have := mem_cnt hi
      omega)
    have HN := Lib.hid hn
    have HS := Lib.hid (show (ts.map Cnd.cnt).sum ≤ 1099511627776 by omega)
    have E := Lib.hid CC
    clear ih hN hc CC hts hn
    go_enter Tryz.func37, Tryz.ntmps37
    go_upto_region 3 with fail
    refine to_cls ?_
    intro U0 hU0 y0
    have r_c : ∀ z : Wb U0, Row z.at w.heap.size [.int .i64 c.k, .int .i64 c.co, .int .i64 c.r, .int .u64 c.ad, .int .u64 c.va, .slice p n q] 27 := Row.next (Row.new _ [.int .i64 c.k, .int .i64 c.co, .int .i64 c.r, .int .u64 c.ad, .int .u64 c.va, .slice p n q] _) hU0
    have KK := Lib.hid (KB.next (KB.alloc (Below.refl w.heap.size w) _) hU0)
    clear hU0
    have c_0 := fun z : Wb U0 => (r_c z).cell 0
    have c_1 := fun z : Wb U0 => (r_c z).cell 1
    have c_2 := fun z : Wb U0 => (r_c z).cell 2
    have c_3 := fun z : Wb U0 => (r_c z).cell 3
    have c_4 := fun z : Wb U0 => (r_c z).cell 4
    have c_5 := fun z : Wb U0 => (r_c z).cell 5
    simp only [List.getElem?_cons_zero, List.getElem?_cons_succ] at c_0 c_1 c_2 c_3 c_4 c_5
    have LU := Lib.hid (fun z : Wb U0 => hl.below (KK.out z))
    clear r_c
    obtain ⟨pC, hpC⟩ : ∃ b, b = w.heap.size := ⟨_, rfl⟩
    rw [← hpC] at c_0 c_1 c_2 c_3 c_4 c_5
    simp only [← hpC]
    clear hpC hl
    go_wp2_with fail
    go_loopw [3, 4] (fun sv iv wr => ∃ (j : Nat) (z : Wb U0), j ≤ n ∧ iv = .int .i64 (j : Int) ∧ sv = .int .i64 ((1 + ((ts.take j).map Cnd.cnt).sum : Nat) : Int) ∧ wr = z.at) (fun _ iv _ => n - (intOf iv).toNat)
    case atStart => exact ⟨0, y0, by omega, rfl, rfl, rfl⟩
    case round =>
      obtain ⟨j, z, hj, rfl, rfl, rfl⟩ := hrel
      have j0 : (0 : Int) ≤ (j : Int) := by omega
      by_cases cj : j < n
      · have j1 : (j : Int) < (n : Int) := by omega
        have j9 : (j : Int) ≤ 1099511627776 := by have := len_sum ts; have := HS.out; have := HN.out; omega
        have l1 : j < ts.length := by have := HN.out; omega
        obtain ⟨a, rfl⟩ := (LU.out z).addr j l1
        obtain ⟨p2, n2, q2, hn2, hl2, e0, e1, e2, e3, e4, e5⟩ := (LU.out z).cells j l1
        have CA := Lib.hid (HH.out (ts[j]'l1) p2 n2 q2 z.at (HT.out _ (List.getElem_mem l1)) hn2 hl2)
        obtain ⟨x0, hx0⟩ : ∃ x, x = (ts[j]'l1).k := ⟨_, rfl⟩
        obtain ⟨x1, hx1⟩ : ∃ x, x = (ts[j]'l1).co := ⟨_, rfl⟩
        obtain ⟨x2, hx2⟩ : ∃ x, x = (ts[j]'l1).r := ⟨_, rfl⟩
        obtain ⟨x3, hx3⟩ : ∃ x, x = (ts[j]'l1).ad := ⟨_, rfl⟩
        obtain ⟨x4, hx4⟩ : ∃ x, x = (ts[j]'l1).va := ⟨_, rfl⟩
        rw [← hx0] at e0
        rw [← hx1] at e1
        rw [← hx2] at e2
        rw [← hx3] at e3
        rw [← hx4] at e4
        rw [← hx0, ← hx1, ← hx2, ← hx3, ← hx4] at CA
        clear hx0 hx1 hx2 hx3 hx4
        have ST := sum_take ts j l1
        have SL := sum_le ts (j + 1)
        obtain ⟨s0, hs0⟩ : ∃ s, s = ((ts.take j).map Cnd.cnt).sum := ⟨_, rfl⟩
        obtain ⟨d, hd⟩ : ∃ d, d = (ts[j]'l1).cnt := ⟨_, rfl⟩
        rw [← hs0, ← hd] at ST
        rw [← hs0, Int.natCast_add]
        rw [← hd] at CA
        have S9 : (s0 : Int) + (d : Int) ≤ 1099511627776 := by have := HS.out; omega
        have s00 : (0 : Int) ≤ (s0 : Int) := by omega
        have d00 : (0 : Int) ≤ (d : Int) := by omega
        have ST := Lib.hid ST
        have JI := Lib.hid (show j + 1 ≤ n by omega)
        clear hs0 hd hn2 hl2 l1 hj cj SL
        go_wp2_with (go_at_call 37; refine CA.out.mono ?_; rintro e w9 ⟨rfl, g⟩; obtain ⟨x9, rfl⟩ := Wb.next g; clear g)
        go_roundw
        case rel => exact ⟨j + 1, x9, JI.out, by go_num, by rw [ST.out]; go_num, rfl⟩
        case measure => have := JI.out; simp [intOf]; omega
      · obtain rfl : j = n := by omega
        have E2 := Lib.hid (show 1 + ((ts.take j).map Cnd.cnt).sum = c.cnt by rw [List.take_of_length_le (by have := HN.out; omega), E.out])
        rw [E2.out]
        clear hj cj
        go_wp2
        go_ret
        exact ⟨rfl, KK.out z⟩
end Go.Proofs.YtlflknfkenfpiaaGreatDoor
namespace GrC
def b1 (k r : Int) (n : Nat) : Bool := decide ((n : Int) ≠ arity k ∨ (k = 1 ∧ (r < 0 ∨ 31 ≤ r)))
def b2 (cores k co : Int) : Bool := decide ((k = 1 ∨ k = 3) ∧ (co < 0 ∨ cores ≤ co))
theorem right_eq (cores : Int) (c : Cnd) : c.right cores = if b1 c.k c.r c.args.length = true then 1 else if b2 cores c.k c.co = true then 131 else rightL cores c.args := by
  cases c
  rw [Cnd.right]
  simp only [b1, b2, decide_eq_true_eq]
  rfl
theorem rightL_zero {cores : Int} : ∀ {ts : List Cnd}, (∀ i (h : i < ts.length), ts[i].right cores = 0) → rightL cores ts = 0
  | [], _ => rfl
  | t :: us, h => by
    have h0 := h 0 (by simp)
    simp only [List.getElem_cons_zero] at h0
    rw [rightL, if_neg (by omega)]
    exact rightL_zero fun i hi => by have := h (i + 1) (by simpa using hi); simpa using this
theorem rightL_at {cores : Int} : ∀ {ts : List Cnd} {j : Nat} (hj : j < ts.length), (∀ i (h : i < ts.length), i < j → ts[i].right cores = 0) → ts[j].right cores ≠ 0 → rightL cores ts = ts[j].right cores
  | t :: us, 0, hj, _, h => by
    simp only [List.getElem_cons_zero] at h ⊢
    rw [rightL, if_pos h]
  | t :: us, j + 1, hj, h1, h => by
    have h0 := h1 0 (by simp) (by omega)
    simp only [List.getElem_cons_zero] at h0
    simp only [List.getElem_cons_succ] at h ⊢
    rw [rightL, if_neg (by omega)]
    exact rightL_at (by simpa using hj) (fun i hi hij => by have := h1 (i + 1) (by simpa using hi) (by omega); simpa using this) h
end GrC
namespace Go.Proofs.YtlflknfkenfpiaaGreatDoor
open Go.RowKit GrC
set_option maxRecDepth 100000 in
set_option maxHeartbeats 3200000 in
theorem args_any (k : Int) (w : World) : Calls Tryz.prog 52 #[.int .i64 k] w fun e w' => e = .returned (.int .i64 (arity k)) ∧ w = w' := by
  have hw : k = 1 ∨ k = 2 ∨ k = 3 ∨ k = 7 ∨ k = 6 ∨ k = 4 ∨ k = 5 ∨ (k ≠ 1 ∧ k ≠ 2 ∧ k ≠ 3 ∧ k ≠ 7 ∧ k ≠ 6 ∧ k ≠ 4 ∧ k ≠ 5) := by omega
  rcases hw with rfl | rfl | rfl | rfl | rfl | rfl | rfl | ⟨h1, h2, h3, h4, h5, h6, h7⟩
  all_goals try
    go_enter Tryz.func52, Tryz.ntmps52
    go_wp2
    go_ret
    exact ⟨rfl, rfl⟩
  have E : arity k = -1 := by
    unfold arity
    rw [if_neg (by omega), if_neg (by omega), if_neg (by omega)]
  rw [E]
  have e1 : (k == 1) = false := by simpa using h1
  have e2 : (k == 2) = false := by simpa using h2
  have e3 : (k == 3) = false := by simpa using h3
  have e4 : (k == 7) = false := by simpa using h4
  have e5 : (k == 6) = false := by simpa using h5
  have e6 : (k == 4) = false := by simpa using h6
  have e7 : (k == 5) = false := by simpa using h7
  clear E
  go_enter Tryz.func52, Tryz.ntmps52
  go_wp2
  go_ret
  exact ⟨rfl, rfl⟩
set_option maxRecDepth 100000 in
set_option maxHeartbeats 6400000 in
theorem right_any (cores : Int) : ∀ (N : Nat), N ≤ 1099511627776 → ∀ (c : Cnd) (p : Option Addr) (n q : Nat) (w : World), c.cnt ≤ N → n = c.args.length → LAt w c.args p 0 → Calls Tryz.prog 35 #[.agg #[.int .i64 c.k, .int .i64 c.co, .int .i64 c.r, .int .u64 c.ad, .int .u64 c.va, .slice p n q], .int .i64 cores] w fun e w' => e = .returned (.int .i64 (c.right cores : Int)) ∧ Below w.heap.size w w' := by
  intro N
  induction N with
  | zero => intro _ c p n q w hc; have := cnt_pos c; omega
  | succ N ih =>
    intro hN c p n q w hc hn hl
    obtain ⟨ts, hts⟩ : ∃ ts, ts = c.args := ⟨_, rfl⟩
    have RC := right_eq cores c
    rw [← hts] at hn hl RC
    have HH := Lib.hid (ih (by omega))
    have HT := Lib.hid (show ∀ t ∈ ts, t.cnt ≤ N from fun t ht => by
      obtain ⟨i, hi, rfl⟩ := List.getElem_of_mem ht
      have := mem_cnt hi
      have := cnt_args c
      rw [← hts] at this
      omega)
    have HN := Lib.hid hn
    have LS := Lib.hid (show ts.length ≤ 1099511627776 by have := len_sum ts; have := cnt_args c; rw [← hts] at this; omega)
    rw [← hn] at RC
    have n9 : (n : Int) ≤ 1099511627776 := by have := LS.out; omega
    have n0 : (0 : Int) ≤ (n : Int) := by omega
    obtain ⟨kk, hkk⟩ : ∃ k, k = c.k := ⟨_, rfl⟩
    obtain ⟨cc, hcc⟩ : ∃ k, k = c.co := ⟨_, rfl⟩
    obtain ⟨rr, hrr⟩ : ∃ k, k = c.r := ⟨_, rfl⟩
    obtain ⟨aa, haa⟩ : ∃ k, k = c.ad := ⟨_, rfl⟩
    obtain ⟨vv, hvv⟩ : ∃ k, k = c.va := ⟨_, rfl⟩
    rw [← hkk, ← hcc, ← hrr] at RC
    rw [← hkk, ← hcc, ← hrr, ← haa, ← hvv]
    have E := Lib.hid RC
    clear ih hN hc RC hts hn hkk hcc hrr haa hvv
    have AG := Lib.hid (fun w => args_any kk w)
    obtain ⟨ar, har⟩ : ∃ a, a = arity kk := ⟨_, rfl⟩
    have AE := Lib.hid har
    rw [← har] at AG
    clear har
    go_enter Tryz.func35, Tryz.ntmps35
    go_upto_region 1 with fail
    refine to_cls ?_
    intro U0 hU0 y0
    have r_c : ∀ z : Wb U0, Row z.at w.heap.size [.int .i64 kk, .int .i64 cc, .int .i64 rr, .int .u64 aa, .int .u64 vv, .slice p n q] 27 := Row.next (Row.new _ [.int .i64 kk, .int .i64 cc, .int .i64 rr, .int .u64 aa, .int .u64 vv, .slice p n q] _) hU0
    have KK := Lib.hid (KB.next (KB.alloc (Below.refl w.heap.size w) _) hU0)
    clear hU0
    have c_0 := fun z : Wb U0 => (r_c z).cell 0
    have c_1 := fun z : Wb U0 => (r_c z).cell 1
    have c_2 := fun z : Wb U0 => (r_c z).cell 2
    have c_3 := fun z : Wb U0 => (r_c z).cell 3
    have c_4 := fun z : Wb U0 => (r_c z).cell 4
    have c_5 := fun z : Wb U0 => (r_c z).cell 5
    simp only [List.getElem?_cons_zero, List.getElem?_cons_succ] at c_0 c_1 c_2 c_3 c_4 c_5
    have LU := Lib.hid (fun z : Wb U0 => hl.below (KK.out z))
    clear r_c
    obtain ⟨pC, hpC⟩ : ∃ b, b = w.heap.size := ⟨_, rfl⟩
    rw [← hpC] at c_0 c_1 c_2 c_3 c_4 c_5
    simp only [← hpC]
    clear hpC hl
    have k0 : ∀ z : Wb y0.at, z.at.cell? ⟨pC, 0, none⟩ = some (.int .i64 kk) := fun z => c_0 ⟨z.at, y0.bel.trans (z.bel.mono y0.bel.size)⟩
    have k2 : ∀ z : Wb y0.at, z.at.cell? ⟨pC, 2, none⟩ = some (.int .i64 rr) := fun z => c_2 ⟨z.at, y0.bel.trans (z.bel.mono y0.bel.size)⟩
    have k5 : ∀ z : Wb y0.at, z.at.cell? ⟨pC, 5, none⟩ = some (.slice p n q) := fun z => c_5 ⟨z.at, y0.bel.trans (z.bel.mono y0.bel.size)⟩
    go_cut [29] (fun v wx => v = .bool (b1 kk rr n) ∧ ∃ z : Wb U0, wx = z.at)
    case first =>
      by_cases ea : (ar : Int) = (n : Int)
      · have e1 : (ar != (n : Int)) = false := by simpa using ea
        by_cases ek : kk = 1
        · subst ek
          by_cases er : rr < 0
          · have B := Lib.hid (show b1 1 rr n = true by unfold b1; exact decide_eq_true (.inr ⟨rfl, .inl er⟩))
            clear AE ea
            refine wp_region_wb (by kernel_rfl) (by kernel_rfl) ?_
            repeat (go_big_quiet_step ((go_at_call 52; exact Calls.wb (Calls.same_below (AG.out _) (Below.refl _ _)))))
            refine wpQuiet_nil ?_
            rintro _ ⟨x9, rfl⟩
            go_wp2
            go_meet
            case rel => exact ⟨by rw [B.out], ⟨x9.at, y0.bel.trans (x9.bel.mono y0.bel.size)⟩, rfl⟩
          · by_cases es : 31 ≤ rr
            · have B := Lib.hid (show b1 1 rr n = true by unfold b1; exact decide_eq_true (.inr ⟨rfl, .inr es⟩))
              clear AE ea
              refine wp_region_wb (by kernel_rfl) (by kernel_rfl) ?_
              repeat (go_big_quiet_step ((go_at_call 52; exact Calls.wb (Calls.same_below (AG.out _) (Below.refl _ _)))))
              refine wpQuiet_nil ?_
              rintro _ ⟨x9, rfl⟩
              go_wp2
              go_meet
              case rel => exact ⟨by rw [B.out], ⟨x9.at, y0.bel.trans (x9.bel.mono y0.bel.size)⟩, rfl⟩
            · have B := Lib.hid (show b1 1 rr n = false by unfold b1; exact decide_eq_false (by have := AE.out; omega))
              clear AE ea
              refine wp_region_wb (by kernel_rfl) (by kernel_rfl) ?_
              repeat (go_big_quiet_step ((go_at_call 52; exact Calls.wb (Calls.same_below (AG.out _) (Below.refl _ _)))))
              refine wpQuiet_nil ?_
              rintro _ ⟨x9, rfl⟩
              go_wp2
              go_meet
              case rel => exact ⟨by rw [B.out], ⟨x9.at, y0.bel.trans (x9.bel.mono y0.bel.size)⟩, rfl⟩
        · have e2 : (kk == 1) = false := by simpa using ek
          have B := Lib.hid (show b1 kk rr n = false by unfold b1; exact decide_eq_false (by have := AE.out; omega))
          clear AE ea
          refine wp_region_wb (by kernel_rfl) (by kernel_rfl) ?_
          repeat (go_big_quiet_step ((go_at_call 52; exact Calls.wb (Calls.same_below (AG.out _) (Below.refl _ _)))))
          refine wpQuiet_nil ?_
          rintro _ ⟨x9, rfl⟩
          go_wp2
          go_meet
          case rel => exact ⟨by rw [B.out], ⟨x9.at, y0.bel.trans (x9.bel.mono y0.bel.size)⟩, rfl⟩
      · have e1 : (ar != (n : Int)) = true := by simpa using ea
        have B := Lib.hid (show b1 kk rr n = true by unfold b1; exact decide_eq_true (.inl (by have := AE.out; omega)))
        clear AE ea
        refine wp_region_wb (by kernel_rfl) (by kernel_rfl) ?_
        repeat (go_big_quiet_step ((go_at_call 52; exact Calls.wb (Calls.same_below (AG.out _) (Below.refl _ _)))))
        refine wpQuiet_nil ?_
        rintro _ ⟨x9, rfl⟩
        go_wp2
        go_meet
        case rel => exact ⟨by rw [B.out], ⟨x9.at, y0.bel.trans (x9.bel.mono y0.bel.size)⟩, rfl⟩
    case rest =>
    obtain ⟨rfl, z1, rfl⟩ := hcut
    apply_assumption
    clear k0 k2 k5 AG AE
    cases hb : b1 kk rr n with
    | true =>
      have F := Lib.hid (show c.right cores = 1 by rw [E.out, hb]; rfl)
      go_wp2
      go_ret
      exact ⟨by rw [F.out]; rfl, KK.out z1⟩
    | false =>
      go_upto_region 3 with fail
      go_cut [48] (fun v wx => v = .bool (b2 cores kk cc) ∧ z1.at = wx)
      case first =>
        by_cases ek : kk = 1
        · subst ek
          by_cases e0 : cc < 0
          · have B := Lib.hid (show b2 cores 1 cc = true by unfold b2; exact decide_eq_true ⟨.inl rfl, .inl e0⟩)
            go_wp2
            go_meet
            case rel => exact ⟨by rw [B.out], rfl⟩
          · by_cases e1 : cores ≤ cc
            · have B := Lib.hid (show b2 cores 1 cc = true by unfold b2; exact decide_eq_true ⟨.inl rfl, .inr e1⟩)
              go_wp2
              go_meet
              case rel => exact ⟨by rw [B.out], rfl⟩
            · have B := Lib.hid (show b2 cores 1 cc = false by unfold b2; exact decide_eq_false (by omega))
              go_wp2
              go_meet
              case rel => exact ⟨by rw [B.out], rfl⟩
        · have ek1 : (kk == 1) = false := by simpa using ek
          by_cases el : kk = 3
          · subst el
            by_cases e0 : cc < 0
            · have B := Lib.hid (show b2 cores 3 cc = true by unfold b2; exact decide_eq_true ⟨.inr rfl, .inl e0⟩)
              go_wp2
              go_meet
              case rel => exact ⟨by rw [B.out], rfl⟩
            · by_cases e1 : cores ≤ cc
              · have B := Lib.hid (show b2 cores 3 cc = true by unfold b2; exact decide_eq_true ⟨.inr rfl, .inr e1⟩)
                go_wp2
                go_meet
                case rel => exact ⟨by rw [B.out], rfl⟩
              · have B := Lib.hid (show b2 cores 3 cc = false by unfold b2; exact decide_eq_false (by omega))
                go_wp2
                go_meet
                case rel => exact ⟨by rw [B.out], rfl⟩
          · have el1 : (kk == 3) = false := by simpa using el
            have B := Lib.hid (show b2 cores kk cc = false by unfold b2; exact decide_eq_false (by omega))
            go_wp2
            go_meet
            case rel => exact ⟨by rw [B.out], rfl⟩
      case rest =>
      obtain ⟨rfl, rfl⟩ := hcut
      apply_assumption
      cases hc : b2 cores kk cc with
      | true =>
        have F := Lib.hid (show c.right cores = 131 by rw [E.out, hb, hc]; rfl)
        go_wp2
        go_ret
        exact ⟨by rw [F.out]; rfl, KK.out z1⟩
      | false =>
        have F := Lib.hid (show c.right cores = rightL cores ts by rw [E.out, hb, hc]; rfl)
        clear hb hc
        go_wp2_with fail
        go_loopw [52] (fun iv wr => ∃ (j : Nat) (z : Wb U0), j ≤ n ∧ iv = .int .i64 (j : Int) ∧ (∀ i (h : i < ts.length), i < j → ts[i].right cores = 0) ∧ wr = z.at) (fun iv _ => n - (intOf iv).toNat)
        case atStart => exact ⟨0, z1, by omega, rfl, fun i h h2 => by omega, rfl⟩
        case round =>
          obtain ⟨j, z, hj, rfl, hall, rfl⟩ := hrel
          have HA := Lib.hid hall
          have j0 : (0 : Int) ≤ (j : Int) := by omega
          clear hall
          by_cases cj : j < n
          · have j1 : (j : Int) < (n : Int) := by omega
            have l1 : j < ts.length := by have := HN.out; omega
            obtain ⟨a, rfl⟩ := (LU.out z).addr j l1
            obtain ⟨p2, n2, q2, hn2, hl2, e0, e1, e2, e3, e4, e5⟩ := (LU.out z).cells j l1
            have CA := Lib.hid (fun w1 (h : LAt w1 (ts[j]'l1).args p2 0) => HH.out (ts[j]'l1) p2 n2 q2 w1 (HT.out _ (List.getElem_mem l1)) hn2 h)
            obtain ⟨x0, hx0⟩ : ∃ x, x = (ts[j]'l1).k := ⟨_, rfl⟩
            obtain ⟨x1, hx1⟩ : ∃ x, x = (ts[j]'l1).co := ⟨_, rfl⟩
            obtain ⟨x2, hx2⟩ : ∃ x, x = (ts[j]'l1).r := ⟨_, rfl⟩
            obtain ⟨x3, hx3⟩ : ∃ x, x = (ts[j]'l1).ad := ⟨_, rfl⟩
            obtain ⟨x4, hx4⟩ : ∃ x, x = (ts[j]'l1).va := ⟨_, rfl⟩
            rw [← hx0] at e0
            rw [← hx1] at e1
            rw [← hx2] at e2
            rw [← hx3] at e3
            rw [← hx4] at e4
            rw [← hx0, ← hx1, ← hx2, ← hx3, ← hx4] at CA
            clear hx0 hx1 hx2 hx3 hx4
            have L2 := Lib.hid hl2
            obtain ⟨d, hd⟩ : ∃ d, d = (ts[j]'l1).right cores := ⟨_, rfl⟩
            rw [← hd] at CA
            have HD := Lib.hid hd
            have JI := Lib.hid (show j + 1 ≤ n by omega)
            clear hd hn2 hl2 hj cj
            go_upto_region 8 with fail
            refine to_cls ?_
            intro U1 hU1 y1
            have r_c : ∀ y : Wb U1, Row y.at z.at.heap.size [.int .i64 x0, .int .i64 x1, .int .i64 x2, .int .u64 x3, .int .u64 x4, .slice p2 n2 q2] 27 := Row.next (Row.new _ [.int .i64 x0, .int .i64 x1, .int .i64 x2, .int .u64 x3, .int .u64 x4, .slice p2 n2 q2] _) hU1
            have BU := Lib.hid (fun y : Wb U1 => show Below z.at.heap.size z.at y.at from (((Below.refl z.at.heap.size z.at).alloc (Nat.le_refl _) _).trans (hU1.mono (by simp))).trans (y.bel.mono (by have := hU1.size; simp at this; omega)))
            clear hU1 e0 e1 e2 e3 e4 e5
            have e0 := fun y : Wb U1 => (r_c y).cell 0
            have e1 := fun y : Wb U1 => (r_c y).cell 1
            have e2 := fun y : Wb U1 => (r_c y).cell 2
            have e3 := fun y : Wb U1 => (r_c y).cell 3
            have e4 := fun y : Wb U1 => (r_c y).cell 4
            have e5 := fun y : Wb U1 => (r_c y).cell 5
            simp only [List.getElem?_cons_zero, List.getElem?_cons_succ] at e0 e1 e2 e3 e4 e5
            have CB := Lib.hid (CA.out y1.at (L2.out.below (BU.out y1)))
            clear r_c CA
            by_cases dz : d = 0
            · subst dz
              go_wp2_with (go_at_call 35; refine CB.out.mono ?_; rintro e w9 ⟨rfl, g⟩; obtain ⟨x9, rfl⟩ := Wb.next g; clear g)
              go_roundw
              case rel => exact ⟨j + 1, ⟨x9.at, z.bel.trans ((BU.out x9).mono z.bel.size)⟩, JI.out, by go_num, fun i h h2 => by
                by_cases e : i = j
                · subst e; exact HD.out.symm
                · exact HA.out i h (by omega), rfl⟩
              case measure => have := JI.out; simp [intOf]; omega
            · have d1 : ¬ (d : Int) = 0 := by omega
              have d2 : ((d : Int) != 0) = true := by simp; omega
              have G := Lib.hid (show c.right cores = d by rw [F.out, rightL_at l1 HA.out (by rw [← HD.out]; exact dz), HD.out])
              go_wp2_with (go_at_call 35; refine CB.out.mono ?_; rintro e w9 ⟨rfl, g⟩; obtain ⟨x9, rfl⟩ := Wb.next g; clear g)
              go_ret
              exact ⟨by rw [G.out]; rfl, (KK.out z).trans ((BU.out x9).mono (KK.out z).size)⟩
          · obtain rfl : j = n := by omega
            have G := Lib.hid (show c.right cores = 0 by rw [F.out]; exact rightL_zero fun i hi => HA.out i hi (by have := HN.out; omega))
            clear hj cj
            go_wp2
            go_ret
            exact ⟨by rw [G.out]; rfl, KK.out z⟩
end Go.Proofs.YtlflknfkenfpiaaGreatDoor
namespace GrC
def b0 (k : Int) (n : Nat) : Bool := decide (¬ (n : Int) = arity k)
def b3 (k r : Int) : Bool := decide (k = 1 ∧ (r < 0 ∨ 31 ≤ r))
theorem b1_or (k r : Int) (n : Nat) : b1 k r n = (b0 k n || b3 k r) := by
  unfold b1 b0 b3
  rw [Bool.eq_iff_iff]
  simp
end GrC
namespace Go.Proofs.YtlflknfkenfpiaaGreatDoor
open Go.RowKit GrC
set_option maxRecDepth 100000 in
set_option maxHeartbeats 6400000 in
theorem rright_any (cores : Int) : ∀ (N : Nat), N ≤ 1099511627776 → ∀ (c : Cnd) (p : Option Addr) (n q : Nat) (w : World), c.cnt ≤ N → n = c.args.length → LAt w c.args p 0 → Calls Tryz.prog 38 #[.agg #[.int .i64 c.k, .int .i64 c.co, .int .i64 c.r, .int .u64 c.ad, .int .u64 c.va, .slice p n q], .int .i64 cores] w fun e w' => e = .returned (.int .i64 (c.right cores : Int)) ∧ Below w.heap.size w w' := by
  intro N
  induction N with
  | zero => intro _ c p n q w hc; have := cnt_pos c; omega
  | succ N ih =>
    intro hN c p n q w hc hn hl
    obtain ⟨ts, hts⟩ : ∃ ts, ts = c.args := ⟨_, rfl⟩
    have RC := right_eq cores c
    rw [← hts] at hn hl RC
    have HH := Lib.hid (ih (by omega))
    have HT := Lib.hid (show ∀ t ∈ ts, t.cnt ≤ N from fun t ht => by
      obtain ⟨i, hi, rfl⟩ := List.getElem_of_mem ht
      have := mem_cnt hi
      have := cnt_args c
      rw [← hts] at this
      omega)
    have HN := Lib.hid hn
    have LS := Lib.hid (show ts.length ≤ 1099511627776 by have := len_sum ts; have := cnt_args c; rw [← hts] at this; omega)
    rw [← hn] at RC
    have n9 : (n : Int) ≤ 1099511627776 := by have := LS.out; omega
    have n0 : (0 : Int) ≤ (n : Int) := by omega
    obtain ⟨kk, hkk⟩ : ∃ k, k = c.k := ⟨_, rfl⟩
    obtain ⟨cc, hcc⟩ : ∃ k, k = c.co := ⟨_, rfl⟩
    obtain ⟨rr, hrr⟩ : ∃ k, k = c.r := ⟨_, rfl⟩
    obtain ⟨aa, haa⟩ : ∃ k, k = c.ad := ⟨_, rfl⟩
    obtain ⟨vv, hvv⟩ : ∃ k, k = c.va := ⟨_, rfl⟩
    rw [← hkk, ← hcc, ← hrr] at RC
    rw [← hkk, ← hcc, ← hrr, ← haa, ← hvv]
    have E := Lib.hid RC
    clear ih hN hc RC hts hn hkk hcc hrr haa hvv
    go_enter Tryz.func38, Tryz.ntmps38
    go_upto_region 1 with fail
    refine to_cls ?_
    intro U0 hU0 y0
    have r_c : ∀ z : Wb U0, Row z.at w.heap.size [.int .i64 kk, .int .i64 cc, .int .i64 rr, .int .u64 aa, .int .u64 vv, .slice p n q] 27 := Row.next (Row.new _ [.int .i64 kk, .int .i64 cc, .int .i64 rr, .int .u64 aa, .int .u64 vv, .slice p n q] _) hU0
    have KK := Lib.hid (KB.next (KB.alloc (Below.refl w.heap.size w) _) hU0)
    clear hU0
    have c_0 := fun z : Wb U0 => (r_c z).cell 0
    have c_1 := fun z : Wb U0 => (r_c z).cell 1
    have c_2 := fun z : Wb U0 => (r_c z).cell 2
    have c_3 := fun z : Wb U0 => (r_c z).cell 3
    have c_4 := fun z : Wb U0 => (r_c z).cell 4
    have c_5 := fun z : Wb U0 => (r_c z).cell 5
    simp only [List.getElem?_cons_zero, List.getElem?_cons_succ] at c_0 c_1 c_2 c_3 c_4 c_5
    have LU := Lib.hid (fun z : Wb U0 => hl.below (KK.out z))
    clear r_c
    obtain ⟨pC, hpC⟩ : ∃ b, b = w.heap.size := ⟨_, rfl⟩
    rw [← hpC] at c_0 c_1 c_2 c_3 c_4 c_5
    simp only [← hpC]
    clear hpC hl
    go_upto_region 2 with fail
    have LY := Lib.hid (LU.out)
    have KY := Lib.hid (KK.out)
    refine to_cls ?_
    intro U1 hU1 y1
    have r_t : ∀ z : Wb U1, Row z.at y0.at.heap.size [.int .i64 (-1), .int .i64 0, .int .i64 0, .int .i64 0, .int .i64 2, .int .i64 2, .int .i64 1, .int .i64 0] 3 := Row.next (Row.new _ [.int .i64 (-1), .int .i64 0, .int .i64 0, .int .i64 0, .int .i64 2, .int .i64 2, .int .i64 1, .int .i64 0] _) hU1
    have BU := Lib.hid (fun y : Wb U1 => show Below y0.at.heap.size y0.at y.at from (((Below.refl y0.at.heap.size y0.at).alloc (Nat.le_refl _) _).trans (hU1.mono (by simp))).trans (y.bel.mono (by have := hU1.size; simp at this; omega)))
    clear hU1
    have c_0 : ∀ z : Wb U1, z.at.cell? ⟨pC, 0, none⟩ = some (.int .i64 kk) := fun z => c_0 ⟨z.at, y0.bel.trans ((BU.out z).mono y0.bel.size)⟩
    have c_1 : ∀ z : Wb U1, z.at.cell? ⟨pC, 1, none⟩ = some (.int .i64 cc) := fun z => c_1 ⟨z.at, y0.bel.trans ((BU.out z).mono y0.bel.size)⟩
    have c_2 : ∀ z : Wb U1, z.at.cell? ⟨pC, 2, none⟩ = some (.int .i64 rr) := fun z => c_2 ⟨z.at, y0.bel.trans ((BU.out z).mono y0.bel.size)⟩
    have c_5 : ∀ z : Wb U1, z.at.cell? ⟨pC, 5, none⟩ = some (.slice p n q) := fun z => c_5 ⟨z.at, y0.bel.trans ((BU.out z).mono y0.bel.size)⟩
    have LU := Lib.hid (fun z : Wb U1 => show LAt z.at ts p 0 from LY.out ⟨z.at, y0.bel.trans ((BU.out z).mono y0.bel.size)⟩)
    have KK := Lib.hid (fun z : Wb U1 => show Below w.heap.size w z.at from KY.out ⟨z.at, y0.bel.trans ((BU.out z).mono y0.bel.size)⟩)
    have k0 := y1.lift c_0
    have k5 := y1.lift c_5
    have t1 := y1.lift (fun z => (r_t z).cell 1)
    have t2 := y1.lift (fun z => (r_t z).cell 2)
    have t3 := y1.lift (fun z => (r_t z).cell 3)
    have t4 := y1.lift (fun z => (r_t z).cell 4)
    have t5 := y1.lift (fun z => (r_t z).cell 5)
    have t6 := y1.lift (fun z => (r_t z).cell 6)
    have t7 := y1.lift (fun z => (r_t z).cell 7)
    clear r_t LY KY BU
    have hk : kk < 1 ∨ 7 < kk ∨ kk = 1 ∨ kk = 2 ∨ kk = 3 ∨ kk = 4 ∨ kk = 5 ∨ kk = 6 ∨ kk = 7 := by omega
    go_cut [27] (fun v wx => v = .bool (b0 kk n) ∧ ∃ z : Wb U1, wx = z.at)
    case first =>
      rcases hk with hk | hk | rfl | rfl | rfl | rfl | rfl | rfl | rfl
      · have g1 : kk < 1 := hk
        have B := Lib.hid (show b0 kk n = true by unfold b0; exact decide_eq_true (by rw [arity_eq]; omega))
        refine wp_region_wb (by kernel_rfl) (by kernel_rfl) ?_
        repeat (go_big_quiet_step (fail))
        refine wpQuiet_nil ?_
        rintro _ ⟨x9, rfl⟩
        go_wp2
        go_meet
        case rel => exact ⟨by rw [B.out], ⟨x9.at, y1.bel.trans (x9.bel.mono y1.bel.size)⟩, rfl⟩
      · have g1 : ¬ kk < 1 := by omega
        have g2 : 7 < kk := hk
        have B := Lib.hid (show b0 kk n = true by unfold b0; exact decide_eq_true (by rw [arity_eq]; omega))
        refine wp_region_wb (by kernel_rfl) (by kernel_rfl) ?_
        repeat (go_big_quiet_step (fail))
        refine wpQuiet_nil ?_
        rintro _ ⟨x9, rfl⟩
        go_wp2
        go_meet
        case rel => exact ⟨by rw [B.out], ⟨x9.at, y1.bel.trans (x9.bel.mono y1.bel.size)⟩, rfl⟩
      · by_cases en : (n : Int) = 0
        · have e1 : ((n : Int) != 0) = false := by simpa using en
          have B := Lib.hid (show b0 1 n = false by unfold b0; exact decide_eq_false (by rw [Classical.not_not, arity_eq]; omega))
          clear en
          refine wp_region_wb (by kernel_rfl) (by kernel_rfl) ?_
          repeat (go_big_quiet_step (fail))
          refine wpQuiet_nil ?_
          rintro _ ⟨x9, rfl⟩
          go_wp2
          go_meet
          case rel => exact ⟨by rw [B.out], ⟨x9.at, y1.bel.trans (x9.bel.mono y1.bel.size)⟩, rfl⟩
        · have e1 : ((n : Int) != 0) = true := by simpa using en
          have B := Lib.hid (show b0 1 n = true by unfold b0; exact decide_eq_true (by rw [arity_eq]; omega))
          clear en
          refine wp_region_wb (by kernel_rfl) (by kernel_rfl) ?_
          repeat (go_big_quiet_step (fail))
          refine wpQuiet_nil ?_
          rintro _ ⟨x9, rfl⟩
          go_wp2
          go_meet
          case rel => exact ⟨by rw [B.out], ⟨x9.at, y1.bel.trans (x9.bel.mono y1.bel.size)⟩, rfl⟩
      · by_cases en : (n : Int) = 0
        · have e1 : ((n : Int) != 0) = false := by simpa using en
          have B := Lib.hid (show b0 2 n = false by unfold b0; exact decide_eq_false (by rw [Classical.not_not, arity_eq]; omega))
          clear en
          refine wp_region_wb (by kernel_rfl) (by kernel_rfl) ?_
          repeat (go_big_quiet_step (fail))
          refine wpQuiet_nil ?_
          rintro _ ⟨x9, rfl⟩
          go_wp2
          go_meet
          case rel => exact ⟨by rw [B.out], ⟨x9.at, y1.bel.trans (x9.bel.mono y1.bel.size)⟩, rfl⟩
        · have e1 : ((n : Int) != 0) = true := by simpa using en
          have B := Lib.hid (show b0 2 n = true by unfold b0; exact decide_eq_true (by rw [arity_eq]; omega))
          clear en
          refine wp_region_wb (by kernel_rfl) (by kernel_rfl) ?_
          repeat (go_big_quiet_step (fail))
          refine wpQuiet_nil ?_
          rintro _ ⟨x9, rfl⟩
          go_wp2
          go_meet
          case rel => exact ⟨by rw [B.out], ⟨x9.at, y1.bel.trans (x9.bel.mono y1.bel.size)⟩, rfl⟩
      · by_cases en : (n : Int) = 0
        · have e1 : ((n : Int) != 0) = false := by simpa using en
          have B := Lib.hid (show b0 3 n = false by unfold b0; exact decide_eq_false (by rw [Classical.not_not, arity_eq]; omega))
          clear en
          refine wp_region_wb (by kernel_rfl) (by kernel_rfl) ?_
          repeat (go_big_quiet_step (fail))
          refine wpQuiet_nil ?_
          rintro _ ⟨x9, rfl⟩
          go_wp2
          go_meet
          case rel => exact ⟨by rw [B.out], ⟨x9.at, y1.bel.trans (x9.bel.mono y1.bel.size)⟩, rfl⟩
        · have e1 : ((n : Int) != 0) = true := by simpa using en
          have B := Lib.hid (show b0 3 n = true by unfold b0; exact decide_eq_true (by rw [arity_eq]; omega))
          clear en
          refine wp_region_wb (by kernel_rfl) (by kernel_rfl) ?_
          repeat (go_big_quiet_step (fail))
          refine wpQuiet_nil ?_
          rintro _ ⟨x9, rfl⟩
          go_wp2
          go_meet
          case rel => exact ⟨by rw [B.out], ⟨x9.at, y1.bel.trans (x9.bel.mono y1.bel.size)⟩, rfl⟩
      · by_cases en : (n : Int) = 2
        · have e1 : ((n : Int) != 2) = false := by simpa using en
          have B := Lib.hid (show b0 4 n = false by unfold b0; exact decide_eq_false (by rw [Classical.not_not, arity_eq]; omega))
          clear en
          refine wp_region_wb (by kernel_rfl) (by kernel_rfl) ?_
          repeat (go_big_quiet_step (fail))
          refine wpQuiet_nil ?_
          rintro _ ⟨x9, rfl⟩
          go_wp2
          go_meet
          case rel => exact ⟨by rw [B.out], ⟨x9.at, y1.bel.trans (x9.bel.mono y1.bel.size)⟩, rfl⟩
        · have e1 : ((n : Int) != 2) = true := by simpa using en
          have B := Lib.hid (show b0 4 n = true by unfold b0; exact decide_eq_true (by rw [arity_eq]; omega))
          clear en
          refine wp_region_wb (by kernel_rfl) (by kernel_rfl) ?_
          repeat (go_big_quiet_step (fail))
          refine wpQuiet_nil ?_
          rintro _ ⟨x9, rfl⟩
          go_wp2
          go_meet
          case rel => exact ⟨by rw [B.out], ⟨x9.at, y1.bel.trans (x9.bel.mono y1.bel.size)⟩, rfl⟩
      · by_cases en : (n : Int) = 2
        · have e1 : ((n : Int) != 2) = false := by simpa using en
          have B := Lib.hid (show b0 5 n = false by unfold b0; exact decide_eq_false (by rw [Classical.not_not, arity_eq]; omega))
          clear en
          refine wp_region_wb (by kernel_rfl) (by kernel_rfl) ?_
          repeat (go_big_quiet_step (fail))
          refine wpQuiet_nil ?_
          rintro _ ⟨x9, rfl⟩
          go_wp2
          go_meet
          case rel => exact ⟨by rw [B.out], ⟨x9.at, y1.bel.trans (x9.bel.mono y1.bel.size)⟩, rfl⟩
        · have e1 : ((n : Int) != 2) = true := by simpa using en
          have B := Lib.hid (show b0 5 n = true by unfold b0; exact decide_eq_true (by rw [arity_eq]; omega))
          clear en
          refine wp_region_wb (by kernel_rfl) (by kernel_rfl) ?_
          repeat (go_big_quiet_step (fail))
          refine wpQuiet_nil ?_
          rintro _ ⟨x9, rfl⟩
          go_wp2
          go_meet
          case rel => exact ⟨by rw [B.out], ⟨x9.at, y1.bel.trans (x9.bel.mono y1.bel.size)⟩, rfl⟩
      · by_cases en : (n : Int) = 1
        · have e1 : ((n : Int) != 1) = false := by simpa using en
          have B := Lib.hid (show b0 6 n = false by unfold b0; exact decide_eq_false (by rw [Classical.not_not, arity_eq]; omega))
          clear en
          refine wp_region_wb (by kernel_rfl) (by kernel_rfl) ?_
          repeat (go_big_quiet_step (fail))
          refine wpQuiet_nil ?_
          rintro _ ⟨x9, rfl⟩
          go_wp2
          go_meet
          case rel => exact ⟨by rw [B.out], ⟨x9.at, y1.bel.trans (x9.bel.mono y1.bel.size)⟩, rfl⟩
        · have e1 : ((n : Int) != 1) = true := by simpa using en
          have B := Lib.hid (show b0 6 n = true by unfold b0; exact decide_eq_true (by rw [arity_eq]; omega))
          clear en
          refine wp_region_wb (by kernel_rfl) (by kernel_rfl) ?_
          repeat (go_big_quiet_step (fail))
          refine wpQuiet_nil ?_
          rintro _ ⟨x9, rfl⟩
          go_wp2
          go_meet
          case rel => exact ⟨by rw [B.out], ⟨x9.at, y1.bel.trans (x9.bel.mono y1.bel.size)⟩, rfl⟩
      · by_cases en : (n : Int) = 0
        · have e1 : ((n : Int) != 0) = false := by simpa using en
          have B := Lib.hid (show b0 7 n = false by unfold b0; exact decide_eq_false (by rw [Classical.not_not, arity_eq]; omega))
          clear en
          refine wp_region_wb (by kernel_rfl) (by kernel_rfl) ?_
          repeat (go_big_quiet_step (fail))
          refine wpQuiet_nil ?_
          rintro _ ⟨x9, rfl⟩
          go_wp2
          go_meet
          case rel => exact ⟨by rw [B.out], ⟨x9.at, y1.bel.trans (x9.bel.mono y1.bel.size)⟩, rfl⟩
        · have e1 : ((n : Int) != 0) = true := by simpa using en
          have B := Lib.hid (show b0 7 n = true by unfold b0; exact decide_eq_true (by rw [arity_eq]; omega))
          clear en
          refine wp_region_wb (by kernel_rfl) (by kernel_rfl) ?_
          repeat (go_big_quiet_step (fail))
          refine wpQuiet_nil ?_
          rintro _ ⟨x9, rfl⟩
          go_wp2
          go_meet
          case rel => exact ⟨by rw [B.out], ⟨x9.at, y1.bel.trans (x9.bel.mono y1.bel.size)⟩, rfl⟩
    case rest =>
    obtain ⟨rfl, z1, rfl⟩ := hcut
    apply_assumption
    clear k0 k5 t1 t2 t3 t4 t5 t6 t7 hk
    have E := Lib.hid (show c.right cores = if (b0 kk n || b3 kk rr) = true then 1 else if b2 cores kk cc = true then 131 else rightL cores ts by rw [← b1_or]; exact E.out)
    cases hb : b0 kk n with
    | true =>
      have F := Lib.hid (show c.right cores = 1 by rw [E.out, hb]; rfl)
      go_wp2
      go_ret
      exact ⟨by rw [F.out]; rfl, KK.out z1⟩
    | false =>
    go_upto_region 4 with fail
    go_cut [40] (fun v wx => v = .bool (b3 kk rr) ∧ z1.at = wx)
    case first =>
      by_cases ek : kk = 1
      · subst ek
        by_cases er : rr < 0
        · have B := Lib.hid (show b3 1 rr = true by unfold b3; exact decide_eq_true ⟨rfl, .inl er⟩)
          go_wp2
          go_meet
          case rel => exact ⟨by rw [B.out], rfl⟩
        · by_cases es : 30 < rr
          · have B := Lib.hid (show b3 1 rr = true by unfold b3; exact decide_eq_true ⟨rfl, .inr (by omega)⟩)
            go_wp2
            go_meet
            case rel => exact ⟨by rw [B.out], rfl⟩
          · have B := Lib.hid (show b3 1 rr = false by unfold b3; exact decide_eq_false (by omega))
            go_wp2
            go_meet
            case rel => exact ⟨by rw [B.out], rfl⟩
      · have ek1 : (kk == 1) = false := by simpa using ek
        have B := Lib.hid (show b3 kk rr = false by unfold b3; exact decide_eq_false (by omega))
        go_wp2
        go_meet
        case rel => exact ⟨by rw [B.out], rfl⟩
    case rest =>
    obtain ⟨rfl, rfl⟩ := hcut
    apply_assumption
    cases hd : b3 kk rr with
    | true =>
      have F := Lib.hid (show c.right cores = 1 by rw [E.out, hb, hd]; rfl)
      go_wp2
      go_ret
      exact ⟨by rw [F.out]; rfl, KK.out z1⟩
    | false =>
      go_upto_region 6 with fail
      go_cut [59] (fun v wx => v = .bool (b2 cores kk cc) ∧ z1.at = wx)
      case first =>
        by_cases ek : kk = 1
        · subst ek
          by_cases e0 : cc < 0
          · have B := Lib.hid (show b2 cores 1 cc = true by unfold b2; exact decide_eq_true ⟨.inl rfl, .inl e0⟩)
            go_wp2
            go_meet
            case rel => exact ⟨by rw [B.out], rfl⟩
          · by_cases e1 : cores ≤ cc
            · have B := Lib.hid (show b2 cores 1 cc = true by unfold b2; exact decide_eq_true ⟨.inl rfl, .inr e1⟩)
              go_wp2
              go_meet
              case rel => exact ⟨by rw [B.out], rfl⟩
            · have B := Lib.hid (show b2 cores 1 cc = false by unfold b2; exact decide_eq_false (by omega))
              go_wp2
              go_meet
              case rel => exact ⟨by rw [B.out], rfl⟩
        · have ek1 : (kk == 1) = false := by simpa using ek
          by_cases el : kk = 3
          · subst el
            by_cases e0 : cc < 0
            · have B := Lib.hid (show b2 cores 3 cc = true by unfold b2; exact decide_eq_true ⟨.inr rfl, .inl e0⟩)
              go_wp2
              go_meet
              case rel => exact ⟨by rw [B.out], rfl⟩
            · by_cases e1 : cores ≤ cc
              · have B := Lib.hid (show b2 cores 3 cc = true by unfold b2; exact decide_eq_true ⟨.inr rfl, .inr e1⟩)
                go_wp2
                go_meet
                case rel => exact ⟨by rw [B.out], rfl⟩
              · have B := Lib.hid (show b2 cores 3 cc = false by unfold b2; exact decide_eq_false (by omega))
                go_wp2
                go_meet
                case rel => exact ⟨by rw [B.out], rfl⟩
          · have el1 : (kk == 3) = false := by simpa using el
            have B := Lib.hid (show b2 cores kk cc = false by unfold b2; exact decide_eq_false (by omega))
            go_wp2
            go_meet
            case rel => exact ⟨by rw [B.out], rfl⟩
      case rest =>
      obtain ⟨rfl, rfl⟩ := hcut
      apply_assumption
      cases hc : b2 cores kk cc with
      | true =>
        have F := Lib.hid (show c.right cores = 131 by rw [E.out, hb, hd, hc]; rfl)
        go_wp2
        go_ret
        exact ⟨by rw [F.out]; rfl, KK.out z1⟩
      | false =>
        have F := Lib.hid (show c.right cores = rightL cores ts by rw [E.out, hb, hd, hc]; rfl)
        clear hb hc hd
        go_wp2_with fail
        go_loopw [6] (fun iv wr => ∃ (j : Nat) (z : Wb U1), j ≤ n ∧ iv = .int .i64 (j : Int) ∧ (∀ i (h : i < ts.length), i < j → ts[i].right cores = 0) ∧ wr = z.at) (fun iv _ => n - (intOf iv).toNat)
        case atStart => exact ⟨0, z1, by omega, rfl, fun i h h2 => by omega, rfl⟩
        case round =>
          obtain ⟨j, z, hj, rfl, hall, rfl⟩ := hrel
          have HA := Lib.hid hall
          have j0 : (0 : Int) ≤ (j : Int) := by omega
          clear hall
          by_cases cj : j < n
          · have j1 : (j : Int) < (n : Int) := by omega
            have l1 : j < ts.length := by have := HN.out; omega
            obtain ⟨a, rfl⟩ := (LU.out z).addr j l1
            obtain ⟨p2, n2, q2, hn2, hl2, e0, e1, e2, e3, e4, e5⟩ := (LU.out z).cells j l1
            have CA := Lib.hid (HH.out (ts[j]'l1) p2 n2 q2 z.at (HT.out _ (List.getElem_mem l1)) hn2 hl2)
            obtain ⟨x0, hx0⟩ : ∃ x, x = (ts[j]'l1).k := ⟨_, rfl⟩
            obtain ⟨x1, hx1⟩ : ∃ x, x = (ts[j]'l1).co := ⟨_, rfl⟩
            obtain ⟨x2, hx2⟩ : ∃ x, x = (ts[j]'l1).r := ⟨_, rfl⟩
            obtain ⟨x3, hx3⟩ : ∃ x, x = (ts[j]'l1).ad := ⟨_, rfl⟩
            obtain ⟨x4, hx4⟩ : ∃ x, x = (ts[j]'l1).va := ⟨_, rfl⟩
            rw [← hx0] at e0
            rw [← hx1] at e1
            rw [← hx2] at e2
            rw [← hx3] at e3
            rw [← hx4] at e4
            rw [← hx0, ← hx1, ← hx2, ← hx3, ← hx4] at CA
            clear hx0 hx1 hx2 hx3 hx4
            obtain ⟨d, hd⟩ : ∃ d, d = (ts[j]'l1).right cores := ⟨_, rfl⟩
            rw [← hd] at CA
            have HD := Lib.hid hd
            have JI := Lib.hid (show j + 1 ≤ n by omega)
            clear hd hn2 hl2 hj cj
            by_cases dz : d = 0
            · subst dz
              go_wp2_with (go_at_call 38; refine CA.out.mono ?_; rintro e w9 ⟨rfl, g⟩; obtain ⟨x9, rfl⟩ := Wb.next g; clear g)
              go_roundw
              case rel => exact ⟨j + 1, x9, JI.out, by go_num, fun i h h2 => by
                by_cases e : i = j
                · subst e; exact HD.out.symm
                · exact HA.out i h (by omega), rfl⟩
              case measure => have := JI.out; simp [intOf]; omega
            · have d1 : ¬ (d : Int) = 0 := by omega
              have d2 : ((d : Int) != 0) = true := by simp; omega
              have G := Lib.hid (show c.right cores = d by rw [F.out, rightL_at l1 HA.out (by rw [← HD.out]; exact dz), HD.out])
              go_wp2_with (go_at_call 38; refine CA.out.mono ?_; rintro e w9 ⟨rfl, g⟩; obtain ⟨x9, rfl⟩ := Wb.next g; clear g)
              go_ret
              exact ⟨by rw [G.out]; rfl, KK.out x9⟩
          · obtain rfl : j = n := by omega
            have G := Lib.hid (show c.right cores = 0 by rw [F.out]; exact rightL_zero fun i hi => HA.out i hi (by have := HN.out; omega))
            clear hj cj
            go_wp2
            go_ret
            exact ⟨by rw [G.out]; rfl, KK.out z⟩
set_option maxRecDepth 100000 in
set_option maxHeartbeats 3200000 in
theorem lright_any (cores : Int) : ∀ (c : Cnd) (p : Option Addr) (n q : Nat) (w : World), c.cnt ≤ 1099511627776 → n = c.args.length → LAt w c.args p 0 → Calls Tryz.prog 17 #[.agg #[.int .i64 c.k, .int .i64 c.co, .int .i64 c.r, .int .u64 c.ad, .int .u64 c.va, .slice p n q], .int .i64 cores] w fun e w' => e = .returned (.int .i64 (c.rightly cores : Int)) ∧ Below w.heap.size w w' := by
  intro c p n q w hc hn hl
  have CT := Lib.hid (fun w1 (h : LAt w1 c.args p 0) => count_any 1099511627776 (Nat.le_refl _) c p n q w1 hc hn h)
  have RT := Lib.hid (fun w1 (h : LAt w1 c.args p 0) => right_any cores 1099511627776 (Nat.le_refl _) c p n q w1 hc hn h)
  obtain ⟨m, hm⟩ : ∃ m, m = c.cnt := ⟨_, rfl⟩
  have E := Lib.hid (show c.rightly cores = if 64 < m then 120 else c.right cores by rw [hm]; rfl)
  rw [← hm] at CT
  clear hm hc hn
  go_enter Tryz.func17, Tryz.ntmps17
  go_upto_region 1 with fail
  refine to_cls ?_
  intro U0 hU0 y0
  have r_c : ∀ z : Wb U0, Row z.at w.heap.size [.int .i64 c.k, .int .i64 c.co, .int .i64 c.r, .int .u64 c.ad, .int .u64 c.va, .slice p n q] 27 := Row.next (Row.new _ [.int .i64 c.k, .int .i64 c.co, .int .i64 c.r, .int .u64 c.ad, .int .u64 c.va, .slice p n q] _) hU0
  have KK := Lib.hid (KB.next (KB.alloc (Below.refl w.heap.size w) _) hU0)
  clear hU0
  have c_0 := fun z : Wb U0 => (r_c z).cell 0
  have c_1 := fun z : Wb U0 => (r_c z).cell 1
  have c_2 := fun z : Wb U0 => (r_c z).cell 2
  have c_3 := fun z : Wb U0 => (r_c z).cell 3
  have c_4 := fun z : Wb U0 => (r_c z).cell 4
  have c_5 := fun z : Wb U0 => (r_c z).cell 5
  simp only [List.getElem?_cons_zero, List.getElem?_cons_succ] at c_0 c_1 c_2 c_3 c_4 c_5
  have LU := Lib.hid (fun z : Wb U0 => hl.below (KK.out z))
  clear r_c
  obtain ⟨pC, hpC⟩ : ∃ b, b = w.heap.size := ⟨_, rfl⟩
  rw [← hpC] at c_0 c_1 c_2 c_3 c_4 c_5
  simp only [← hpC]
  clear hpC hl
  by_cases cm : 64 < m
  · have g1 : (64 : Int) < (m : Int) := by omega
    have F := Lib.hid (show c.rightly cores = 120 by rw [E.out, if_pos cm])
    clear cm
    go_wp2_with (go_at_call 34; refine (CT.out _ (LU.out y0)).mono ?_; rintro e w9 ⟨rfl, g⟩; obtain ⟨x9, rfl⟩ := Wb.next g; clear g)
    go_ret
    exact ⟨by rw [F.out]; rfl, KK.out x9⟩
  · have g1 : ¬ (64 : Int) < (m : Int) := by omega
    have F := Lib.hid (show c.rightly cores = c.right cores by rw [E.out, if_neg cm])
    clear cm
    go_wp2_with (first | (go_at_call 34; refine (CT.out _ (LU.out y0)).mono ?_; rintro e w9 ⟨rfl, g⟩; obtain ⟨x9, rfl⟩ := Wb.next g; clear g) | (go_at_call 35; refine (RT.out _ (LU.out x9)).mono ?_; rintro e w9 ⟨rfl, g⟩; obtain ⟨x8, rfl⟩ := Wb.next g; clear g))
    go_ret
    exact ⟨by rw [F.out]; rfl, KK.out x8⟩
set_option maxRecDepth 100000 in
set_option maxHeartbeats 3200000 in
theorem rrightly_any (cores : Int) : ∀ (c : Cnd) (p : Option Addr) (n q : Nat) (w : World), c.cnt ≤ 1099511627776 → n = c.args.length → LAt w c.args p 0 → Calls Tryz.prog 21 #[.agg #[.int .i64 c.k, .int .i64 c.co, .int .i64 c.r, .int .u64 c.ad, .int .u64 c.va, .slice p n q], .int .i64 cores] w fun e w' => e = .returned (.int .i64 (c.rightly cores : Int)) ∧ Below w.heap.size w w' := by
  intro c p n q w hc hn hl
  have CT := Lib.hid (fun w1 (h : LAt w1 c.args p 0) => rcount_any 1099511627776 (Nat.le_refl _) c p n q w1 hc hn h)
  have RT := Lib.hid (fun w1 (h : LAt w1 c.args p 0) => rright_any cores 1099511627776 (Nat.le_refl _) c p n q w1 hc hn h)
  obtain ⟨m, hm⟩ : ∃ m, m = c.cnt := ⟨_, rfl⟩
  have E := Lib.hid (show c.rightly cores = if 64 < m then 120 else c.right cores by rw [hm]; rfl)
  rw [← hm] at CT
  clear hm hc hn
  go_enter Tryz.func21, Tryz.ntmps21
  go_upto_region 1 with fail
  refine to_cls ?_
  intro U0 hU0 y0
  have r_c : ∀ z : Wb U0, Row z.at w.heap.size [.int .i64 c.k, .int .i64 c.co, .int .i64 c.r, .int .u64 c.ad, .int .u64 c.va, .slice p n q] 27 := Row.next (Row.new _ [.int .i64 c.k, .int .i64 c.co, .int .i64 c.r, .int .u64 c.ad, .int .u64 c.va, .slice p n q] _) hU0
  have KK := Lib.hid (KB.next (KB.alloc (Below.refl w.heap.size w) _) hU0)
  clear hU0
  have c_0 := fun z : Wb U0 => (r_c z).cell 0
  have c_1 := fun z : Wb U0 => (r_c z).cell 1
  have c_2 := fun z : Wb U0 => (r_c z).cell 2
  have c_3 := fun z : Wb U0 => (r_c z).cell 3
  have c_4 := fun z : Wb U0 => (r_c z).cell 4
  have c_5 := fun z : Wb U0 => (r_c z).cell 5
  simp only [List.getElem?_cons_zero, List.getElem?_cons_succ] at c_0 c_1 c_2 c_3 c_4 c_5
  have LU := Lib.hid (fun z : Wb U0 => hl.below (KK.out z))
  clear r_c
  obtain ⟨pC, hpC⟩ : ∃ b, b = w.heap.size := ⟨_, rfl⟩
  rw [← hpC] at c_0 c_1 c_2 c_3 c_4 c_5
  simp only [← hpC]
  clear hpC hl
  by_cases cm : 64 < m
  · have g1 : (64 : Int) < (m : Int) := by omega
    have F := Lib.hid (show c.rightly cores = 120 by rw [E.out, if_pos cm])
    clear cm
    go_wp2_with (go_at_call 37; refine (CT.out _ (LU.out y0)).mono ?_; rintro e w9 ⟨rfl, g⟩; obtain ⟨x9, rfl⟩ := Wb.next g; clear g)
    go_ret
    exact ⟨by rw [F.out]; rfl, KK.out x9⟩
  · have g1 : ¬ (64 : Int) < (m : Int) := by omega
    have F := Lib.hid (show c.rightly cores = c.right cores by rw [E.out, if_neg cm])
    clear cm
    go_wp2_with (first | (go_at_call 37; refine (CT.out _ (LU.out y0)).mono ?_; rintro e w9 ⟨rfl, g⟩; obtain ⟨x9, rfl⟩ := Wb.next g; clear g) | (go_at_call 38; refine (RT.out _ (LU.out x9)).mono ?_; rintro e w9 ⟨rfl, g⟩; obtain ⟨x8, rfl⟩ := Wb.next g; clear g))
    go_ret
    exact ⟨by rw [F.out]; rfl, KK.out x8⟩
end Go.Proofs.YtlflknfkenfpiaaGreatDoor
