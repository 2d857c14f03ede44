/-
  Texts of one claim, merged.
-/
import Derived.Test.YtlflknfkenfpiaaGreatDoorR26
import Derived.Laws.StandIn
import Derived.Lib.Overlaps
set_option linter.unusedSimpArgs false
set_option linter.unusedVariables false
namespace GrG
open Go Go.RowKit
theorem indexByte_eq (a b : Value) : Extern.BytealgIndexByte.indexByte #[a, b] = (do
    let b' ← Extern.Bytes.bytesOf a
    let c ← Extern.Bytes.asByte b
    match (List.range b'.size).find? fun i => b'[i]! == c with
    | some i => pure (goInt i)
    | none => pure (goInt (-1))) := rfl
theorem index_eq (a b : Value) : Extern.BytealgIndex.index #[a, b] = (do
    let a ← Extern.Bytes.bytesOf a
    let b ← Extern.Bytes.bytesOf b
    if b.size < 2 || (b.size : Int) > (← Extern.BytealgIndex.maxLen) then
      unsupported (.noEntry "extern/internal/bytealg.Index.length")
    if a.size ≥ 2 ^ 32 - 15 then
      unsupported (.noEntry "extern/internal/bytealg.Index: a haystack of 2^32 - 15 bytes or more")
    match (List.range (a.size + 1 - b.size)).find? fun i => a.extract i (i + b.size) == b with
    | some i => pure (goInt i)
    | none => pure (goInt (-1))) := rfl
theorem range_findB {c : Nat} : ∀ (l : List Nat) (k : Nat) (q : Nat → Bool), (∀ j (h : j < l.length), q (k + j) = Nat.beq l[j] c) → (List.range' k l.length).find? q = findB c l k
  | [], k, q, h => rfl
  | a :: l, k, q, h => by
    rw [List.length_cons, List.range'_succ, List.find?_cons]
    have h0 := h 0 (by simp)
    simp only [Nat.add_zero, List.getElem_cons_zero] at h0
    rw [h0]
    unfold findB
    split
    · next e => simp only [e]
    · next e =>
      simp only [e]
      exact range_findB l (k + 1) q fun j hj => by
        have := h (j + 1) (by simpa using hj)
        rw [show k + (j + 1) = k + 1 + j by omega] at this
        simpa using this
theorem pref_len : ∀ {t l : List Nat}, pref t l = true → t.length ≤ l.length
  | [], l, h => by simp
  | a :: t, [], h => by cases h
  | a :: t, b :: l, h => by
    unfold pref at h
    split at h
    · have := pref_len h
      simpa using this
    · cases h
theorem findS_short {t : List Nat} : ∀ {l : List Nat} {k : Nat}, l.length < t.length → findS t l k = none
  | [], k, h => by
    unfold findS
    cases t with
    | nil => simp at h
    | cons a t => rfl
  | a :: l, k, h => by
    unfold findS
    split
    · next e => have := pref_len e; omega
    · exact findS_short (by simp at h; omega)
theorem range_findS {t : List Nat} : ∀ (l : List Nat) (k : Nat) (q : Nat → Bool), (∀ j, j + t.length ≤ l.length → q (k + j) = pref t (l.drop j)) → (List.range' k (l.length + 1 - t.length)).find? q = findS t l k
  | [], k, q, h => by
    cases t with
    | nil =>
      have h0 := h 0 (by simp)
      simp only [Nat.add_zero] at h0
      simp [findS, h0, pref]
    | cons a t => simp [findS]
  | a :: l, k, q, h => by
    by_cases hl : (a :: l).length < t.length
    · rw [findS_short hl, show (a :: l).length + 1 - t.length = 0 by omega]
      rfl
    · rw [show (a :: l).length + 1 - t.length = (l.length + 1 - t.length) + 1 by simp at hl ⊢; omega, List.range'_succ, List.find?_cons]
      have h0 := h 0 (by simp at hl ⊢; omega)
      simp only [Nat.add_zero, List.drop_zero] at h0
      rw [h0]
      unfold findS
      split
      · next e => simp only [e]
      · next e =>
        simp only [e]
        exact range_findS l (k + 1) q fun j hj => by
          have := h (j + 1) (by simp; omega)
          rw [show k + (j + 1) = k + 1 + j by omega] at this
          simpa using this
theorem pref_eq : ∀ {t l : List Nat}, pref t l = leq (l.take t.length) t
  | [], l => by simp [pref, leq]
  | a :: t, [] => by simp [pref, leq]
  | a :: t, b :: l => by
    simp only [pref, List.length_cons, List.take_succ_cons, leq]
    rw [pref_eq (t := t)]
    cases h : Nat.beq a b with
    | true => rw [show Nat.beq b a = true by rw [beq_t h]; simp]
    | false => rw [show Nat.beq b a = false from f_beq fun e => beq_f h e.symm]
section
variable {P : Program} {B : World} {G : Nat} {cx : Cx} {M M' : Mem} {hi : Nat} {s : At}
theorem xok_of {f : Nat} {fn : Func} {x : Xk} {e : Array Value → Sem Value} (h1 : P.funcs[f]? = some fn) (h2 : (fn.name == "runtime.NumGoroutine") = false) (h3 : fn.body.isNone = true) (h4 : Extern.findNext fn = none) (h5 : Extern.find fn = some e)
    (h6 : ∀ (B : World) (cx : Cx) (M M' : Mem) (hi : Nat) (s : At) (args : List AV) (r : AV) (vs : List Value), ext x args M = some (r, M') → LogOk cx M' → Is B G cx M hi s → LRel s.σ args vs → ∃ q, VRel s.σ r q ∧ (e vs.toArray).run P s.W = .ok q s.W) : XOk P G f x := fun B cx M M' hi s args r vs ex hl hs hv => by
  obtain ⟨q, q1, q2⟩ := h6 B cx M M' hi s args r vs ex hl hs hv
  refine ⟨q, q1, ?_⟩
  rw [run_callFunc_standIn h1 h2 h3 h4 h5, q2]
  rfl
theorem xok_indexByte {f : Nat} {fn : Func} (h1 : P.funcs[f]? = some fn) (h2 : (fn.name == "runtime.NumGoroutine") = false) (h3 : fn.body.isNone = true) (h4 : Extern.findNext fn = none) (h5 : Extern.find fn = some Extern.BytealgIndexByte.indexByte) : XOk P G f .indexByteString :=
  xok_of h1 h2 h3 h4 h5 fun B cx M M' hi s args r vs ex hl hs hv => by
    have ex : om M (xIndexByte args) = some (r, M') := ex
    unfold om at ex
    split at ex
    · next v ev =>
      cases ex
      unfold xIndexByte at ev
      split at ev
      · next str c =>
        cases hv with
        | cons k1 k2 =>
          cases k2 with
          | cons k2 k3 =>
            cases k3
            cases k1
            next hlt =>
            cases k2
            have key : Nat.blt c 256 = true → (List.range (sB str).size).find? (fun i => (sB str)[i]! == (Int.ofNat c).toNat.toUInt8) = findB c str 0 := fun hc => by
              rw [sB_size, List.range_eq_range']
              refine range_findB str 0 _ fun j hj => ?_
              have hg : (sB str)[j]! = UInt8.ofNat str[j] := by
                have := sB_get (l := str) (m := j) (x := str[j]) (List.getElem?_eq_getElem hj)
                rw [getElem!_def, this]
              rw [Nat.zero_add, hg]
              have h256 := hlt _ (List.getElem_mem hj)
              have hc := blt_t hc
              cases hb : Nat.beq str[j] c with
              | true =>
                have := beq_t hb
                rw [this]
                simp
              | false =>
                have := beq_f hb
                simp only [beq_eq_false_iff_ne, ne_eq]
                intro q
                apply this
                have := congrArg UInt8.toNat q
                simp at this
                omega
            split at ev
            · next i hc hf =>
              cases ev
              refine ⟨_, .int _ _, ?_⟩
              show (Extern.BytealgIndexByte.indexByte #[.string (sB str), .int .u8 (Int.ofNat c)]).run P s.W = _
              rw [indexByte_eq]
              simp only [Extern.Bytes.bytesOf, Extern.Bytes.asByte, Sem.run_bind, run_pureS, Result.andThen_ok, key hc, hf]
              rfl
            · next hc hf =>
              cases ev
              refine ⟨_, .int _ _, ?_⟩
              show (Extern.BytealgIndexByte.indexByte #[.string (sB str), .int .u8 (Int.ofNat c)]).run P s.W = _
              rw [indexByte_eq]
              simp only [Extern.Bytes.bytesOf, Extern.Bytes.asByte, Sem.run_bind, run_pureS, Result.andThen_ok, key hc, hf]
              rfl
            · cases ev
      · cases ev
    · cases ex
theorem atl_inv {σ : Sg} {k : Nat} {v : Value} (h : VRel σ (.atl k) v) : ∃ m : Nat, k ≤ m ∧ v = .int .i64 (Int.ofNat m) := by
  cases h
  exact ⟨_, by assumption, rfl⟩
theorem run_maxLen (hs : Is B G cx M hi s) {g : Nat} {ty : Option Nat} {c : T AV} {k : Nat} (hg : g < G) (hP : P.globals.findIdx? (·.name == "internal/bytealg.MaxLen") = some g) (er : M.row g = some (ty, c)) (hv : cx.vis g) (ek : c.get 0 = some (.atl k)) : ∃ m : Nat, k ≤ m ∧ (Extern.BytealgIndex.maxLen).run P s.W = .ok (Int.ofNat m) s.W := by
  obtain ⟨z, hz⟩ := hs.gb g hg
  obtain ⟨v, h1, h2⟩ := hs.rel.cell (hs.row er hv) hz ek
  obtain ⟨m, hm, rfl⟩ := atl_inv h2
  refine ⟨m, hm, ?_⟩
  unfold Extern.BytealgIndex.maxLen
  have hga : (globalAddr "internal/bytealg.MaxLen").run P s.W = .ok ⟨g, 0, none⟩ s.W := by
    unfold globalAddr
    simp only [Sem.run_bind, program, Sem.run, Result.andThen_ok, hP]
    exact run_pureS _ _ _
  have hld : (load ⟨g, 0, none⟩).run P s.W = .ok (.int .i64 (Int.ofNat m)) s.W := by
    simp only [load, Sem.run]
    rw [show s.W.cell? ⟨g, 0, none⟩ = some (.int .i64 (Int.ofNat m)) from h1]
  rw [Sem.run_bind, hga, Result.andThen_ok, Sem.run_bind, hld]
  rfl
theorem xok_index {f g : Nat} {fn : Func} (h1 : P.funcs[f]? = some fn) (h2 : (fn.name == "runtime.NumGoroutine") = false) (h3 : fn.body.isNone = true) (h4 : Extern.findNext fn = none) (h5 : Extern.find fn = some Extern.BytealgIndex.index) (hg : g < G) (hP : P.globals.findIdx? (·.name == "internal/bytealg.MaxLen") = some g) : XOk P G f (.indexString g) :=
  xok_of h1 h2 h3 h4 h5 fun B cx M M' hi s args r vs ex hl hs hv => by
    simp only [ext] at ex
    split at ex
    · next c str t er =>
      split at ex
      · next k ek e2 e3 =>
        split at ex
        · next e4 =>
          unfold om at ex
          split at ex
          · next v ev =>
            cases ex
            cases hv with
            | cons k1 k2 =>
              cases k2 with
              | cons k2 k3 =>
                cases k3
                cases k1
                next hlt =>
                cases k2
                next hlt2 =>
                obtain ⟨m, hm, hml⟩ := run_maxLen hs hg hP er (hl.rd g (List.mem_cons_self ..)) ek
                have e2 := ble_t e2
                have e3 := blt_t e3
                have e4 := ble_t e4
                have key : (List.range ((sB str).size + 1 - (sB t).size)).find? (fun i => (sB str).extract i (i + (sB t).size) == sB t) = findS t str 0 := by
                  rw [sB_size, sB_size, List.range_eq_range']
                  refine range_findS str 0 _ fun j hj => ?_
                  rw [Nat.zero_add, sB_extract, sB_beq (fun x hx => hlt x (List.mem_of_mem_take (List.mem_of_mem_drop hx))) hlt2, pref_eq, List.drop_take, Nat.add_sub_cancel_left]
                have c1 : (decide ((sB t).size < 2) || decide (((sB t).size : Int) > Int.ofNat m)) = false := by
                  rw [sB_size]
                  simp
                  omega
                have c2 : ¬ (sB str).size ≥ 2 ^ 32 - 15 := by
                  rw [sB_size]
                  omega
                unfold xIndex at ev
                simp only at ev
                split at ev
                · next i hf =>
                  cases ev
                  refine ⟨_, .int _ _, ?_⟩
                  show (Extern.BytealgIndex.index #[.string (sB str), .string (sB t)]).run P s.W = _
                  rw [index_eq]
                  simp only [Extern.Bytes.bytesOf, Sem.run_bind, run_pureS, Result.andThen_ok, hml, c1, Bool.false_eq_true, if_false, c2, key, hf]
                  rfl
                · next hf =>
                  cases ev
                  refine ⟨_, .int _ _, ?_⟩
                  show (Extern.BytealgIndex.index #[.string (sB str), .string (sB t)]).run P s.W = _
                  rw [index_eq]
                  simp only [Extern.Bytes.bytesOf, Sem.run_bind, run_pureS, Result.andThen_ok, hml, c1, Bool.false_eq_true, if_false, c2, key, hf]
                  rfl
          · cases ex
        · cases ex
      · cases ex
    · cases ex
def add64 (args : Array Value) : Sem Value := do
    let (x, y, c) ← Extern.MathBitsCarry.three "Add64" args
    pure (Extern.MathBitsCarry.pair ((x + y + c) % Extern.MathBitsCarry.m64) ((x + y + c) / Extern.MathBitsCarry.m64))
theorem three_eq (name : String) (x y c : Value) : Extern.MathBitsCarry.three name #[x, y, c] = (do
    let c := (← asInt c).toNat
    if c > 1 then unsupported (.noEntry ("extern/math/bits." ++ name ++ ": a carry that is neither 0 nor 1"))
    pure ((← asInt x).toNat, (← asInt y).toNat, c)) := rfl
theorem xok_same {f : Nat} {fn : Func} (h1 : P.funcs[f]? = some fn) (h2 : (fn.name == "runtime.NumGoroutine") = false) (h3 : fn.body.isNone = true) (h4 : Extern.findNext fn = none) (h5 : Extern.find fn = some Extern.AbiNoEscape.same) : XOk P G f .same :=
  xok_of h1 h2 h3 h4 h5 fun B cx M M' hi s args r vs ex hl hs hv => by
    have ex : om M (xSame args) = some (r, M') := ex
    unfold om at ex
    split at ex
    · next v ev =>
      cases ex
      unfold xSame at ev
      split at ev
      · next a =>
        split at ev
        · cases ev
        · cases ev
          cases hv with
          | cons k1 k2 =>
            cases k2
            exact ⟨_, k1, rfl⟩
      · cases ev
    · cases ex
theorem xok_add64 {f : Nat} {fn : Func} (h1 : P.funcs[f]? = some fn) (h2 : (fn.name == "runtime.NumGoroutine") = false) (h3 : fn.body.isNone = true) (h4 : Extern.findNext fn = none) (h5 : Extern.find fn = some add64) : XOk P G f .add64 :=
  xok_of h1 h2 h3 h4 h5 fun B cx M M' hi s args r vs ex hl hs hv => by
    have ex : om M (xAdd64 args) = some (r, M') := ex
    unfold om at ex
    split at ex
    · next v ev =>
      cases ex
      unfold xAdd64 at ev
      split at ev
      · next x y c =>
        split at ev
        · cases ev
        · next hc =>
          have hc := ble_t hc
          cases ev
          cases hv with
          | cons k1 k2 =>
            cases k2 with
            | cons k2 k3 =>
              cases k3 with
              | cons k3 k4 =>
                cases k4
                cases k1
                cases k2
                cases k3
                refine ⟨_, .tup (.cons (.int _ _) (.cons (.int _ _) .nil)), ?_⟩
                show (add64 #[.int .u64 (Int.ofNat x), .int .u64 (Int.ofNat y), .int .u64 (Int.ofNat c)]).run P s.W = _
                unfold add64
                rw [three_eq]
                have hc' : ¬ (Int.ofNat c).toNat > 1 := by simp; omega
                simp only [asInt, asIntOf, Sem.run_bind, run_pureS, Result.andThen_ok, hc', if_false]
                rfl
      · cases ev
    · cases ex
end
end GrG
namespace GrG
open Go Go.RowKit
theorem bodied_ok {P : Program} {f : Nat} {fn : Func} (h : bodied P f = some fn) : P.funcs[f]? = some fn ∧ (fn.name == "runtime.NumGoroutine") = false ∧ fn.body.isNone = false := by
  unfold bodied at h
  split at h
  · next fn' e =>
    split at h
    · next c eb =>
      split at h
      · cases h
      · next en =>
        cases h
        exact ⟨e, en, by rw [eb]; rfl⟩
    · cases h
  · cases h
theorem assoc_mem {α : Type} {n : Nat} {a : α} : ∀ {l : List (Nat × α)}, assoc l n = some a → (n, a) ∈ l
  | [], h => by cases h
  | p :: l, h => by
    unfold assoc at h
    split at h
    · next e =>
      cases h
      have := beq_t e
      subst this
      exact List.mem_cons_self ..
    · exact List.mem_cons_of_mem _ (assoc_mem h)
theorem envOf_ok {P : Program} {exts : List (Nat × Xk)} {jn : List (Nat × Bool)} {ng : Nat} (hm : P.follows .mixedOrders = true) (hx : ∀ p ∈ exts, XOk P ng p.1 p.2) : EnvOk P (envOf P exts jn ng) :=
  ⟨fun f x h => hx (f, x) (assoc_mem h), fun f fn h => bodied_ok h, fun t i h => h, hm, fun _ _ _ h => h, fun n e h => by rw [show (envOf P exts jn ng).orc = .leaf from rfl, T.get_leaf] at h; cases h⟩
def cxTop (G : Nat) : Cx where
  vis := fun _ => True
  wok := fun i => G ≤ i
  lo := G
  own := fun _ h => h
  seen := fun _ _ => trivial
def geAll (G : Nat) : List Nat → Bool
  | [] => true
  | a :: l => match Nat.ble G a with
    | true => geAll G l
    | false => false
theorem geAll_t {G i : Nat} : ∀ {l : List Nat}, geAll G l = true → i ∈ l → G ≤ i
  | [], _, h => by cases h
  | a :: l, h, k => by
    unfold geAll at h
    split at h
    · next e =>
      rcases List.mem_cons.1 k with rfl | k
      · exact ble_t e
      · exact geAll_t h k
    · cases h
noncomputable def answer (E : Env) (k f : Nat) (args : List AV) (M : Mem) : Option AV := match run E k f args M with
  | .one v M' => match geAll E.ng M'.wr with
    | true => some v
    | false => none
  | _ => none
theorem answer_ok {P : Program} {E : Env} (hE : EnvOk P E) {k f : Nat} {args : List AV} {vs : List Value} {M : Mem} {v : AV} {W : World} {σ : Sg} {F : Fm} (h : answer E k f args M = some v)
    (hs : ∀ hi, M.next ≤ hi → Is W E.ng (cxTop E.ng) M hi ⟨σ, F, W⟩) (hv : LRel σ args vs) : Calls P f vs.toArray W fun e W' => ∃ q σ', e = .returned q ∧ σ.le σ' ∧ VRel σ' v q ∧ Below W.heap.size W W' := by
  unfold answer at h
  split at h
  · next v' M' er =>
    split at h
    · next hg =>
      cases h
      have hS := ev_ok (B := W) hE k
      have hin : (evCallF E (ev E k) f args M).In v M' := by
        have : run E k f args M = evCallF E (ev E k) f args M := rfl
        rw [← this, er]
        exact ⟨rfl, rfl⟩
      have hgr := evCallF_gr hS hin
      have hall : (evCallF E (ev E k) f args M).All fun v1 M1 => LogOk (cxTop E.ng) M1 ∧ M1.next ≤ M'.next ∧ v1 = v := by
        have : run E k f args M = evCallF E (ev E k) f args M := rfl
        rw [← this, er]
        exact .one ⟨⟨fun _ _ => trivial, fun i hi => geAll_t hg hi⟩, Nat.le_refl _, rfl⟩
      obtain ⟨fn, _, hc⟩ := evCallF_ok hE hS (hs M'.next hgr.next) hv hall
      refine (callsIn_wide.1 hc).mono fun e W' hR => ?_
      cases e with
      | returned q =>
        obtain ⟨v1, M1, s', rfl, rfl, q1, q2, q3⟩ := hR
        exact ⟨q, s'.σ, rfl, q3.le, q1, q2.rel.base⟩
      | panicked c => exact hR.elim
      | outgrown => exact hR.elim
    · cases h
  · cases h
end GrG
