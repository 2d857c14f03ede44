/-
  Texts of one claim, merged.
-/
import Derived.Test.YtlflknfkenfpiaaGreatDoorProg
import Derived.WalkKit
import Derived.WalkSpells
import Derived.WalkLawsBesides
import Derived.BigQuiet
import Derived.Handy
import Derived.Lib.Hide
import Derived.Below
import Derived.WalkSmall
import Derived.Deep.DeepCutAuto
import Derived.StillTail
import Derived.Eval
import Derived.Laws.Rows
import Derived.Laws.AppendOwn
import Derived.LoopTactic
set_option linter.unusedSimpArgs false
set_option linter.unusedVariables false
namespace GrF
def num (b : Nat → Bool) : Nat → Nat
  | 0 => 0
  | n + 1 => num b n + (if b n then 2 ^ n else 0)
theorem num_lt (b : Nat → Bool) (n : Nat) : num b n < 2 ^ n := by
  induction n with
  | zero => simp [num]
  | succ n ih => simp only [num, Nat.pow_succ]; split <;> omega
theorem num_testBit (b : Nat → Bool) (n i : Nat) : (num b n).testBit i = (decide (i < n) && b i) := by
  induction n with
  | zero => simp [num]
  | succ n ih =>
    simp only [num]
    by_cases hb : b n
    · simp only [hb, if_true]
      rw [show num b n + 2 ^ n = 2 ^ n + num b n by omega]
      by_cases hi : i = n
      · subst hi
        rw [Nat.testBit_two_pow_add_eq, Nat.testBit_lt_two_pow (num_lt b i)]
        simp [hb]
      · by_cases hlt : i < n
        · rw [Nat.testBit_two_pow_add_gt hlt, ih]
          have h2 : i < n + 1 := by omega
          simp [hlt, h2]
        · rw [Nat.testBit_lt_two_pow]
          · have h2 : ¬ i < n + 1 := by omega
            simp [h2]
          · have := num_lt b n
            have h2 : 2 ^ (n + 1) ≤ 2 ^ i := Nat.pow_le_pow_right (by decide) (by omega)
            rw [Nat.pow_succ] at h2; omega
    · rw [if_neg hb, Nat.add_zero, ih]
      by_cases hi : i = n
      · subst hi; simp [hb]
      · by_cases hlt : i < n
        · have h2 : i < n + 1 := by omega
          simp [hlt, h2]
        · have h2 : ¬ i < n + 1 := by omega
          simp [hlt, h2]
def bit (c : Bool) : Int := if c then 1 else 0
def pw (n : Int) : Int := ((2 ^ n.toNat : Nat) : Int)
def maskN (n : Int) : Nat := 2 ^ (min n.toNat 64) - 1
def mask (n : Int) : Int := ((maskN n : Nat) : Int)
theorem maskN_lt (n : Int) : maskN n < 18446744073709551616 := by
  have : 2 ^ (min n.toNat 64) ≤ 2 ^ 64 := Nat.pow_le_pow_right (by decide) (by omega)
  have h0 : 0 < 2 ^ (min n.toNat 64) := Nat.two_pow_pos _
  unfold maskN; omega
theorem maskN_testBit (n : Int) (i : Nat) : (maskN n).testBit i = (decide (i < n.toNat) && decide (i < 64)) := by
  unfold maskN
  rw [Nat.testBit_two_pow_sub_one, ← Bool.decide_and]
  congr 1
  apply propext
  omega
def spanB (hi lo : Int) : Bool := decide (0 ≤ lo) && decide (lo ≤ hi) && decide (hi ≤ 63)
def getN (w hi lo : Nat) : Nat := num (fun i => w.testBit (lo + i)) (hi + 1 - lo)
def get (w hi lo : Int) : Int := if spanB hi lo = true then ((getN w.toNat hi.toNat lo.toNat : Nat) : Int) else 0
def putBit (w v hi lo : Nat) (i : Nat) : Bool := if lo ≤ i ∧ i ≤ hi then v.testBit (i - lo) else w.testBit i
def putN (w hi lo v : Nat) : Nat := num (putBit w v hi lo) 64
def put (w hi lo v : Int) : Int := if spanB hi lo = true then ((putN w.toNat hi.toNat lo.toNat v.toNat : Nat) : Int) else w
def downN (w : Nat) (n : Int) : Nat := num (fun i => w.testBit i && !(decide (i < n.toNat))) 64
def down (w n : Int) : Int := ((downN w.toNat n : Nat) : Int)
def alignedB (w n : Int) : Bool := down w n == w
theorem tb64 {x : Nat} (h : x < 18446744073709551616) {i : Nat} (hi : 64 ≤ i) : x.testBit i = false := by
  apply Nat.testBit_lt_two_pow
  have h2 : 2 ^ 64 ≤ 2 ^ i := Nat.pow_le_pow_right (by decide) hi
  omega
theorem aligned_nat (w : Nat) (n : Int) (hw : w < 18446744073709551616) : (w &&& maskN n = 0) ↔ downN w n = w := by
  constructor
  · intro h
    apply Nat.eq_of_testBit_eq
    intro i
    have hi := congrArg (fun x => x.testBit i) h
    simp only [Nat.testBit_and, maskN_testBit, Nat.zero_testBit] at hi
    rw [downN, num_testBit]
    by_cases c : i < 64
    · by_cases a : i < n.toNat
      · simp [a, c] at hi; simp [a, hi]
      · simp [a, c]
    · simp [c, tb64 hw (show 64 ≤ i by omega)]
  · intro h
    apply Nat.eq_of_testBit_eq
    intro i
    have hi := congrArg (fun x => x.testBit i) h
    simp only [downN, num_testBit] at hi
    rw [Nat.testBit_and, maskN_testBit, Nat.zero_testBit]
    by_cases c : i < 64
    · by_cases a : i < n.toNat
      · simp [a, c] at hi; simp [hi]
      · simp [a]
    · simp [c]
def signedN (w k : Nat) : Int := ((num (fun i => w.testBit i) k : Nat) : Int) - (if w.testBit k then ((2 ^ k : Nat) : Int) else 0)
def signed (w n : Int) : Int := if n < 1 ∨ 63 < n then 0 else signedN w.toNat (n - 1).toNat
def fitsB (v n : Int) : Bool := decide (1 ≤ n) && decide (n ≤ 63) && decide (-pw (n - 1) ≤ v) && decide (v ≤ pw (n - 1) - 1)
theorem pw_bd (n : Int) (h : n ≤ 63) : 1 ≤ pw (n - 1) ∧ pw (n - 1) ≤ 4611686018427387904 := by
  unfold pw
  have h0 : 0 < 2 ^ (n - 1).toNat := Nat.two_pow_pos _
  have h1 : 2 ^ (n - 1).toNat ≤ 2 ^ 62 := Nat.pow_le_pow_right (by decide) (by omega)
  omega
theorem pw_cast (n : Int) : (2 : Int) ^ (n.toNat - 1) = pw (n - 1) := by
  unfold pw
  rw [show (n - 1).toNat = n.toNat - 1 by omega]
  simp
theorem fits_out (v n : Int) (h : n < 1 ∨ 63 < n) : fitsB v n = false := by
  unfold fitsB
  rcases h with h | h
  · rw [decide_eq_false (show ¬ 1 ≤ n by omega)]; simp
  · rw [decide_eq_false (show ¬ n ≤ 63 by omega)]; simp
end GrF
namespace GrI
structure I where
  op : Int
  d : Int
  n : Int
  m : Int
  imm : Int
  kind : Int
def zero : I := ⟨0, 0, 0, 0, 0, 0⟩
theorem I.ext {a b : I} (h1 : a.op = b.op) (h2 : a.d = b.d) (h3 : a.n = b.n) (h4 : a.m = b.m) (h5 : a.imm = b.imm) (h6 : a.kind = b.kind) : a = b := by
  cases a; cases b; simp_all
def parts (op : Int) : Int :=
  if op = 1 ∨ op = 20 ∨ op = 22 then 0
  else if op = 2 ∨ op = 3 ∨ op = 7 then 11
  else if op = 4 ∨ op = 5 then 3
  else if op = 6 then 25
  else if op = 8 ∨ op = 9 ∨ op = 10 ∨ op = 11 ∨ op = 12 ∨ op = 13 then 7
  else if op = 14 then 8
  else if op = 15 ∨ op = 16 then 9
  else if op = 17 then 24
  else if op = 18 ∨ op = 19 then 16
  else if op = 21 ∨ op = 23 then 17
  else -1
def nums (x : I) : Prop :=
  if x.op = 2 ∨ x.op = 3 then 0 ≤ x.imm ∧ x.imm ≤ 32760 ∧ x.imm % 8 = 0
  else if x.op = 7 then 0 ≤ x.imm ∧ x.imm ≤ 4095
  else if x.op = 6 then 0 ≤ x.imm ∧ x.imm ≤ 65535 ∧ 0 ≤ x.kind ∧ x.kind ≤ 3
  else if x.op = 14 then -33554432 ≤ x.imm ∧ x.imm ≤ 33554431
  else if x.op = 15 ∨ x.op = 16 then -262144 ≤ x.imm ∧ x.imm ≤ 262143
  else if x.op = 17 then -262144 ≤ x.imm ∧ x.imm ≤ 262143 ∧ 0 ≤ x.kind ∧ x.kind ≤ 1
  else if x.op = 18 ∨ x.op = 19 then (9 ≤ x.kind ∧ x.kind ≤ 11) ∨ (13 ≤ x.kind ∧ x.kind ≤ 15)
  else if x.op = 21 then 0 ≤ x.kind ∧ x.kind ≤ 7 ∧ (x.kind % 4 ≠ 0 ∨ x.d = 31)
  else if x.op = 23 then 0 ≤ x.kind ∧ x.kind ≤ 2
  else True
instance (x : I) : Decidable (nums x) := by unfold nums; infer_instance
def right (x : I) : Prop :=
  1 ≤ x.op ∧ x.op ≤ 23 ∧ 0 ≤ x.d ∧ x.d ≤ 31 ∧ 0 ≤ x.n ∧ x.n ≤ 31 ∧ 0 ≤ x.m ∧ x.m ≤ 31 ∧
  (parts x.op % 2 = 1 ∨ x.d = 0) ∧ (parts x.op / 2 % 2 = 1 ∨ x.n = 0) ∧ (parts x.op / 4 % 2 = 1 ∨ x.m = 0) ∧ (parts x.op / 8 % 2 = 1 ∨ x.imm = 0) ∧ (parts x.op / 16 % 2 = 1 ∨ x.kind = 0) ∧ nums x
instance (x : I) : Decidable (right x) := by unfold right; infer_instance
def word (x : I) : Int :=
  let w := x.d + x.n * 32 + x.m * 65536
  if x.op = 1 then 3573751839
  else if x.op = 2 then 4181721088 + w + x.imm / 8 % 4096 * 1024
  else if x.op = 3 then 4177526784 + w + x.imm / 8 % 4096 * 1024
  else if x.op = 4 then 3370122240 + w
  else if x.op = 5 then 3365927936 + w
  else if x.op = 6 then 3531603968 + w + x.kind % 4 * 2097152 + x.imm % 65536 * 32
  else if x.op = 7 then 2432696320 + w + x.imm % 4096 * 1024
  else if x.op = 8 then 2332033024 + w
  else if x.op = 9 then 3405774848 + w
  else if x.op = 10 then 2315255808 + w
  else if x.op = 11 then 2852126720 + w
  else if x.op = 12 then 3388997632 + w
  else if x.op = 13 then 3942645760 + w
  else if x.op = 14 then 335544320 + x.imm % 67108864
  else if x.op = 15 then 3019898880 + x.d + x.imm % 524288 * 32
  else if x.op = 16 then 3036676096 + x.d + x.imm % 524288 * 32
  else if x.op = 17 then 1409286144 + x.kind + x.imm % 524288 * 32
  else if x.op = 18 then 3573756095 + x.kind * 256
  else if x.op = 19 then 3573756063 + x.kind * 256
  else if x.op = 20 then 3573759967
  else if x.op = 22 then 3600745440
  else if x.op = 21 then 3574104832 + x.d + (if x.kind % 4 = 0 then 0 else if x.kind % 4 = 1 then 32 else if x.kind % 4 = 2 then 96 else 64) + x.kind / 4 * 1024
  else (if x.kind = 0 then 3577238016 else if x.kind = 1 then 3577241600 else 3577233440) + x.d
theorem ops {x : I} (h : right x) : x.op = 1 ∨ x.op = 2 ∨ x.op = 3 ∨ x.op = 4 ∨ x.op = 5 ∨ x.op = 6 ∨ x.op = 7 ∨ x.op = 8 ∨ x.op = 9 ∨ x.op = 10 ∨ x.op = 11 ∨ x.op = 12 ∨ x.op = 13 ∨ x.op = 14 ∨ x.op = 15 ∨ x.op = 16 ∨ x.op = 17 ∨ x.op = 18 ∨ x.op = 19 ∨ x.op = 20 ∨ x.op = 21 ∨ x.op = 22 ∨ x.op = 23 := by
  obtain ⟨h1, h2, _⟩ := h
  omega
def cls (w : Int) : Int :=
  if 4181721088 ≤ w ∧ w < 4185915392 then 2
  else if 4177526784 ≤ w ∧ w < 4181721088 then 3
  else if 3370122240 ≤ w ∧ w < 3370123264 then 4
  else if 3365927936 ≤ w ∧ w < 3365928960 then 5
  else if 3531603968 ≤ w ∧ w < 3539992576 then 6
  else if 2432696320 ≤ w ∧ w < 2436890624 then 7
  else if 2332033024 ≤ w ∧ w < 2334130176 then 8
  else if 3405774848 ≤ w ∧ w < 3407872000 then 9
  else if 2315255808 ≤ w ∧ w < 2317352960 then 10
  else if 2852126720 ≤ w ∧ w < 2854223872 then 11
  else if 3388997632 ≤ w ∧ w < 3391094784 then 12
  else if 3942645760 ≤ w ∧ w < 3944742912 then 13
  else if 335544320 ≤ w ∧ w < 402653184 then 14
  else if 3019898880 ≤ w ∧ w < 3036676096 then 15
  else if 3036676096 ≤ w ∧ w < 3053453312 then 16
  else if 1409286144 ≤ w ∧ w < 1426063360 then 17
  else if w = 3573751839 then 1
  else if w = 3573759967 then 20
  else if w = 3600745440 then 22
  else if 3574104832 ≤ w ∧ w < 3574106880 then 21
  else if 3577233440 ≤ w ∧ w < 3577241632 then 23
  else if w % 256 = 191 then 18
  else 19
def sign (n size : Int) : Int := if size / 2 ≤ n then n - size else n
end GrI
namespace Go.Proofs.YtlflknfkenfpiaaGreatDoor
open Go.RowKit
def Wb (W : World) : Type := {w' : World // Below W.heap.size W w'}
def Wb.at {W : World} (x : Wb W) : World := x.1
theorem Wb.bel {W : World} (x : Wb W) : Below W.heap.size W x.at := x.2
instance wbNonempty (W : World) : Nonempty (Wb W) := ⟨⟨W, Below.refl _ _⟩⟩
theorem Wb.cell {W : World} (x : Wb W) (a : Addr) (h : a.block < W.heap.size) : x.at.cell? a = W.cell? a := x.bel.cell (p := a) h
theorem wp_region_wb {P : Program} {id : Nat} {Q : Exit → Act → World → Prop} {a : Act} {w : World} {l : List Oper} (hm : P.follows .mixedOrders = true) (hB : Region.lexB .any l.toArray = true)
    (h : wpQuiet P l.toArray (fun w' => ∃ n : Wb w, w' = n.at) (fun a' => ∀ w', (∃ n : Wb w, w' = n.at) → Q .normal a' w') l a) : (Code.region id l.toArray true).wp P Q a w :=
  wp_region_quiet (C := fun w' => ∃ n : Wb w, w' = n.at) hm hB ⟨⟨_, (Below.refl _ _).drew⟩, rfl⟩ (by simpa using h)
theorem Calls.wb {P : Program} {f : FuncId} {args : Array Value} {W : World} {x : Wb W} {v : Value}
    (h : Calls P f args x.at fun e w' => e = .returned v ∧ Below x.at.heap.size x.at w') : Calls P f args x.at fun e w'' => e = .returned v ∧ ∃ m : Wb W, w'' = m.at :=
  h.mono fun _ w' ⟨he, hb⟩ => ⟨he, ⟨w', x.bel.trans (hb.mono x.bel.size)⟩, rfl⟩
theorem Wb.start {W w1 : World} (h : Below W.heap.size W w1) : ∃ x : Wb W, w1 = x.at := ⟨⟨w1, h⟩, rfl⟩
theorem Wb.next {W w2 : World} {x : Wb W} (h : Below x.at.heap.size x.at w2) : ∃ x2 : Wb W, w2 = x2.at := ⟨⟨w2, x.bel.trans (h.mono x.bel.size)⟩, rfl⟩
theorem Wb.size {W : World} (x : Wb W) : W.heap.size ≤ x.at.heap.size := x.bel.size
theorem Calls.same_below {P : Program} {f : FuncId} {args : Array Value} {w w1 : World} {v : Value} (h : Calls P f args w fun e w' => e = .returned v ∧ w1 = w') (hb : Below w.heap.size w w1) : Calls P f args w fun e w' => e = .returned v ∧ Below w.heap.size w w' :=
  h.mono fun _ _ ⟨he, hw⟩ => ⟨he, hw ▸ hb⟩
end Go.Proofs.YtlflknfkenfpiaaGreatDoor
namespace Go.Proofs.YtlflknfkenfpiaaGreatDoor
open Go.RowKit
theorem Wb.prev {w1 : World} {o : Obj} (y : Wb (w1.alloc o)) (a : Addr) (h : a.block < w1.heap.size) : y.at.cell? a = w1.cell? a := by
  rw [y.cell a (by simp; omega)]
  exact ((Below.refl w1.heap.size w1).alloc (Nat.le_refl _) o).cell h
theorem Wb.lift {W : World} (x : Wb W) {a : Addr} {v : Value} (h : ∀ z : Wb W, z.at.cell? a = some v) : ∀ z : Wb x.at, z.at.cell? a = some v := fun z => by
  obtain ⟨u, hu⟩ := Wb.next (x := x) z.bel
  rw [hu]
  exact h u
end Go.Proofs.YtlflknfkenfpiaaGreatDoor
namespace Go.Proofs.YtlflknfkenfpiaaGreatDoor
open Go.RowKit
theorem ret_b {a b : Bool} (h : a = b) : Ending.returned (.bool a) = .returned (.bool b) := by rw [h]
def iv (x : GrI.I) : Value := .agg #[.int .i64 x.op, .int .i64 x.d, .int .i64 x.n, .int .i64 x.m, .int .i64 x.imm, .int .i64 x.kind]
def ibox (x : GrI.I) : Obj := .cells #[.int .i64 x.op, .int .i64 x.d, .int .i64 x.n, .int .i64 x.m, .int .i64 x.imm, .int .i64 x.kind] 84
end Go.Proofs.YtlflknfkenfpiaaGreatDoor
namespace Go.Proofs.YtlflknfkenfpiaaGreatDoor
open Go.RowKit
@[go_sem] theorem gr_alloc_drewN (w : World) (n : Nat) (o : Obj) : (w.drewN n).alloc o = (w.alloc o).drewN n := rfl
@[go_sem] theorem gr_setCell_drewN (w : World) (n : Nat) (a : Addr) (v : Value) : (w.drewN n).setCell a v = (w.setCell a v).drewN n := rfl
def Drew (w w' : World) : Prop := ∃ n, w' = w.drewN n
theorem Drew.refl (w : World) : Drew w w := ⟨0, rfl⟩
theorem Drew.drewN {w w' : World} (h : Drew w w') (n : Nat) : Drew w (w'.drewN n) := by
  obtain ⟨m, rfl⟩ := h
  exact ⟨m + n, by rw [World.drewN_drewN]⟩
theorem Drew.trans {w w' w2 : World} (h : Drew w w') (k : Drew w' w2) : Drew w w2 := by
  obtain ⟨m, rfl⟩ := k
  exact h.drewN m
theorem Drew.below {w w' : World} (h : Drew w w') (B : Nat) : Below B w w' := by
  obtain ⟨m, rfl⟩ := h
  exact ⟨rfl, rfl, rfl, Nat.le_refl _, fun _ _ => rfl⟩
theorem ret_u64 {a b : Int} (h : a = b) : Ending.returned (.int .u64 a) = .returned (.int .u64 b) := by rw [h]
theorem ret_bool {a b : Bool} (h : a = b) : Ending.returned (.bool a) = .returned (.bool b) := by rw [h]
theorem mask_wrap (n : Int) (h : 1 ≤ n) : IntKind.u64.wrap (IntKind.u64.wrap (2 ^ min n.toNat 64) - 1) = GrF.mask n := by
  unfold GrF.mask GrF.maskN
  rw [IntKind.wrap_u64, IntKind.wrap_u64]
  have h0 : 0 < 2 ^ (min n.toNat 64) := Nat.two_pow_pos _
  have h1 : 2 ^ (min n.toNat 64) ≤ 2 ^ 64 := Nat.pow_le_pow_right (by decide) (by omega)
  have e : ((2 : Int) ^ min n.toNat 64) = ((2 ^ min n.toNat 64 : Nat) : Int) := by simp
  rw [e]
  generalize 2 ^ min n.toNat 64 = k at h0 h1
  omega
set_option maxHeartbeats 400000 in
theorem mask_any (n : Int) (w : World) (h0 : -9223372036854775808 ≤ n) (h1 : n ≤ 9223372036854775807) :
    Calls Tryz.prog 85 #[.int .i64 n] w fun e w' => e = .returned (.int .u64 (GrF.mask n)) ∧ w = w' := by
  by_cases hn : n < 1
  · go_enter Tryz.func85, Tryz.ntmps85
    go_wp2
    go_ret
    exact ⟨ret_u64 (by rw [GrF.mask, GrF.maskN, show min n.toNat 64 = 0 by omega]; rfl), rfl⟩
  · have hp : 0 ≤ n := by omega
    go_enter Tryz.func85, Tryz.ntmps85
    go_wp2
    go_ret
    exact ⟨ret_u64 (mask_wrap n (by omega)), rfl⟩
end Go.Proofs.YtlflknfkenfpiaaGreatDoor
namespace Go.Proofs.YtlflknfkenfpiaaGreatDoor
open Go.RowKit
theorem ret_i64 {a b : Int} (h : a = b) : Ending.returned (.int .i64 a) = .returned (.int .i64 b) := by rw [h]
theorem and_eq (x n : Int) (h0 : 0 ≤ x) (h1 : x < 18446744073709551616) : bits .and .u64 x (GrF.mask n) = ((x.toNat &&& GrF.maskN n : Nat) : Int) := by
  obtain ⟨y, rfl⟩ := Int.eq_ofNat_of_zero_le h0
  rw [GrF.mask, bits_and_u64_nat _ _ (by omega) (GrF.maskN_lt _), Int.toNat_natCast]
theorem aligned_eq (x n : Int) (h0 : 0 ≤ x) (h1 : x < 18446744073709551616) : (bits .and .u64 x (GrF.mask n) == 0) = GrF.alignedB x n := by
  rw [and_eq x n h0 h1, GrF.alignedB, GrF.down, Bool.eq_iff_iff]
  have := GrF.aligned_nat x.toNat n (by omega)
  simp only [beq_iff_eq]
  omega
set_option maxHeartbeats 400000 in
theorem aligned_any (x n : Int) (w : World) (h0 : 0 ≤ x) (h1 : x < 18446744073709551616) (h2 : -9223372036854775808 ≤ n) (h3 : n ≤ 9223372036854775807) :
    Calls Tryz.prog 54 #[.int .u64 x, .int .i64 n] w fun e w' => e = .returned (.bool (GrF.alignedB x n)) ∧ w = w' := by
  have H1 := Lib.hid h1
  clear h1
  go_enter Tryz.func54, Tryz.ntmps54
  go_wp2_with (go_at_call 85; refine (mask_any _ _ (by omega) (by omega)).mono ?_; rintro e w' ⟨rfl, rfl⟩)
  go_ret
  exact ⟨ret_bool (aligned_eq x n h0 H1.out), rfl⟩
theorem fits_low (n : Int) (h : n ≤ 63) : wrap64 (-2 ^ (n.toNat - 1)) = -GrF.pw (n - 1) := by
  rw [GrF.pw_cast]
  have := GrF.pw_bd n h
  unfold wrap64; omega
theorem fits_top (n : Int) (h : n ≤ 63) : wrap64 (wrap64 (2 ^ (n.toNat - 1)) - 1) = GrF.pw (n - 1) - 1 := by
  rw [GrF.pw_cast]
  have := GrF.pw_bd n h
  unfold wrap64; omega
set_option maxHeartbeats 400000 in
theorem fits_any (v n : Int) (w : World) (h0 : -9223372036854775808 ≤ v) (h1 : v ≤ 9223372036854775807) (h2 : -9223372036854775808 ≤ n) (h3 : n ≤ 9223372036854775807) :
    Calls Tryz.prog 155 #[.int .i64 v, .int .i64 n] w fun e w' => e = .returned (.bool (GrF.fitsB v n)) ∧ Drew w w' := by
  by_cases c1 : 1 ≤ n
  · by_cases c2 : n ≤ 63
    · have c3 : 0 ≤ n - 1 := by omega
      go_enter Tryz.func155, Tryz.ntmps155
      go_wp2
      · go_ret
        exact ⟨ret_bool (by rw [fits_top n c2]; unfold GrF.fitsB; rw [decide_eq_true (show 1 ≤ n by omega), decide_eq_true c2, decide_eq_true (show -GrF.pw (n - 1) ≤ v by rw [← fits_low n c2]; assumption)]; simp), Drew.refl _⟩
      · go_ret
        exact ⟨ret_bool (by unfold GrF.fitsB; rw [decide_eq_false (show ¬ -GrF.pw (n - 1) ≤ v by rw [← fits_low n c2]; exact Int.not_le.2 (by assumption))]; simp), Drew.refl _⟩
    · go_enter Tryz.func155, Tryz.ntmps155
      go_wp2
      go_ret
      exact ⟨ret_bool (by rw [GrF.fits_out v n (by omega)]), Drew.refl _⟩
  · go_enter Tryz.func155, Tryz.ntmps155
    go_wp2
    go_ret
    exact ⟨ret_bool (by rw [GrF.fits_out v n (by omega)]), Drew.refl _⟩
end Go.Proofs.YtlflknfkenfpiaaGreatDoor
namespace Go.Proofs.YtlflknfkenfpiaaGreatDoor
open Go.RowKit
section
variable {P : Program} {ops : Array Oper} {md : Region.Mode} {C : World → Prop}
def Heads (P : Program) (md : Region.Mode) (ops : Array Oper) (C : World → Prop) (n : Nat) (L : Array Bool → Act → Prop) : Nat → Array Bool → Act → Prop
  | 0, got, a => L got a
  | k + 1, got, a => Region.ready md ops got ≠ [] ∧ ∀ j, j ∈ Region.ready md ops got → j < n ∧ qOp P ops C j (Heads P md ops C n L k (got.setIfInBounds j true)) a
theorem Heads.any {n g : Nat} {L : Array Bool → Act → Prop} {Q : Exit → Act → World → Prop} (hL : ∀ got a w, C w → L got a → wpAny P md ops Q g got a w) (k : Nat) :
    ∀ got a w, C w → Heads P md ops C n L k got a → wpAny P md ops Q (k + g) got a w := by
  induction k with
  | zero => intro got a w hw h; rw [Nat.zero_add]; exact hL got a w hw h
  | succ k ih =>
    intro got a w hw h
    have e : k + 1 + g = (k + g) + 1 := by omega
    rw [e]
    exact ⟨fun none => (h.1 none).elim, fun j hj => wpOp_of_qOp hw (fun a' w' c h' => ih _ a' w' c h') (h.2 j hj).2⟩
structure Shape (md : Region.Mode) (ops : Array Oper) (n : Nat) : Prop where
  sel : Region.noSelect ops = true
  sink : Region.sinkB md ops n = true
  chain : Region.chainB md ops n = true
  lt : n < ops.size
theorem Shape.head {n i j : Nat} {got : Array Bool} (S : Shape md ops n) (inv : HeadInv md ops n got) (hi : i ∈ Region.ready md ops got) (hin : i < n) (hj : j ∈ Region.ready md ops got) : j < n := by
  rcases Nat.lt_or_ge j n with c | c
  · exact c
  · exact (tail_waits S.sink S.chain S.lt inv _ i rfl hin (mem_ready.1 hi).1 j c hj).elim
theorem Heads.first {n i : Nat} {o : Oper} {v : Value} {L : Array Bool → Act → Prop} (S : Shape md ops n) (hi : ops[i]? = some o) (hin : i < n)
    (done : ∀ got a, L got a → ∀ j ∈ Region.ready md ops got, n ≤ j) (k : Nat) :
    ∀ got a, HeadInv md ops n got →
      (∀ j p, ops[j]? = some p → j ≠ i → got.getD j true = false → (∀ e ∈ p.after, Region.binds md e = true → e.on ≠ i) → o.apart ops p = true) →
      i ∈ Region.ready md ops got → YieldsIn P ops C o v a →
      Heads P md ops C n L k (got.setIfInBounds i true) (a.put o.dst v) → Heads P md ops C n L (k + 1) got a := by
  induction k with
  | zero =>
    intro got a inv _ hr hy H
    refine ⟨fun none => (by rw [none] at hr; cases hr), fun j hj => ⟨S.head inv hr hin hj, ?_⟩⟩
    by_cases hji : j = i
    · subst hji; exact hy.qOp hi H
    · have h1 := done _ _ H j (ready_mono hj hji)
      have h2 := S.head inv hr hin hj
      omega
  | succ k ih =>
    intro got a inv apart hr hy H
    refine ⟨fun none => (by rw [none] at hr; cases hr), fun j hj => ⟨S.head inv hr hin hj, ?_⟩⟩
    by_cases hji : j = i
    · subst hji; exact hy.qOp hi H
    · obtain ⟨jun, p, hp, waits⟩ := mem_ready.1 hj
      have no : ∀ e ∈ p.after, Region.binds md e = true → e.on ≠ i := fun e he hb on => by
        have h1 := waits e he hb
        rw [on, getD_both (mem_ready.1 hr).1] at h1
        cases h1
      have h2 := qOp_put hp (apart j p hp hji jun no) (fun cs b => Region.noSelect_spec S.sel i o cs b hi) (fun cs b => Region.noSelect_spec S.sel j p cs b hp) hy (H.2 j (ready_mono hj hji)).2
      refine qOp_mono (fun a' h3 => ih (got.setIfInBounds j true) a' (inv.set hj (S.head inv hr hin hj)) (fun m q hq hmi hun hno => ?_) (ready_mono hr (Ne.symm hji)) h3.1 ?_) h2
      · refine apart m q hq hmi ?_ hno
        by_cases hjm : j = m
        · subst hjm; exact jun
        · rw [getD_set_ne true hjm] at hun; exact hun
      · rw [Array.setIfInBounds_comm _ _ hji]
        exact h3.2
theorem Heads.lex {n g : Nat} {R : Act → Prop} (S : Shape md ops n) :
    ∀ (os : List Oper) (k : Nat) (got : Array Bool) (a : Act), (∀ j, j < os.length → os[j]? = ops[k + j]?) → k + os.length = n → HeadInv md ops n got →
    Region.lexHead md ops g os.length k got = true → wpQuiet P ops C R os a →
    Heads P md ops C n (fun got' a' => Region.seqB md ops g n got' = true ∧ R a') os.length got a := by
  intro os
  induction os with
  | nil =>
    intro k got a _ hk _ hB h
    have e : k = n := by simpa using hk
    subst e
    exact ⟨by simpa [Region.lexHead] using hB, h⟩
  | cons o os ih =>
    intro k got a hl hk inv hB h
    have h0 : ops[k]? = some o := by simpa using (hl 0 (by simp)).symm
    simp only [List.length_cons] at hk
    simp only [List.length_cons, Region.lexHead, Bool.and_eq_true] at hB
    have hr : k ∈ Region.ready md ops got := by simpa using hB.1.1
    have hq : qOp P ops C k (wpQuiet P ops C R os) a := by unfold qOp; simp only [h0]; exact h
    obtain ⟨v, hy, hK⟩ := yieldsIn_of_qOp h0 hq
    refine Heads.first S h0 (by omega) (fun got' a' hL => seqB_ready hL.1) os.length got a inv (Region.free_spec h0 hB.1.2) hr hy (ih (k + 1) _ _ (fun j hj => ?_) (by omega) (inv.set hr (by omega)) hB.2 hK)
    have := hl (j + 1) (by simp; omega)
    simpa [Nat.add_assoc, Nat.add_comm 1 j] using this
end
theorem wp_region_class_tail {P : Program} {id : Nat} {Q : Exit → Act → World → Prop} {a : Act} {w : World} {l : List Oper} (C : World → Prop) (hC : C { w with drawn := w.drawn + 1 }) (n : Nat) (hm : P.follows .mixedOrders = true) (hB : Region.lexTailB .any l.toArray n = true)
    (h : wpQuiet P l.toArray C (fun a' => ∀ w', C w' → wpList P l.toArray Q (l.drop n) a' w') (l.take n) a) : (Code.region id l.toArray true).wp P Q a w := by
  simp only [Region.lexTailB, Bool.and_eq_true, decide_eq_true_eq] at hB
  obtain ⟨⟨⟨⟨sel, lt⟩, sink⟩, chain⟩, lex⟩ := hB
  have S : Shape .any l.toArray n := ⟨sel, sink, chain, lt⟩
  have lt' : n < l.length := by simpa using lt
  have tk : (l.take n).length = n := by simp; omega
  have dr : (l.drop n).length = l.toArray.size - n := by simp
  have inv : HeadInv .any l.toArray n (Array.replicate l.toArray.size false) :=
    ⟨by simp, fun j p _ hj => (by rw [getD_replicate_false] at hj; cases hj), fun t _ ht => getD_in (by simpa using ht) (getD_replicate_false _ _)⟩
  have H := Heads.lex (md := .any) (g := l.toArray.size - n) S (l.take n) 0 _ a (fun j hj => by
    have hj' : j < n := by rw [tk] at hj; exact hj
    simp [hj']) (by simpa using tk) inv (by rw [tk]; exact lex) h
  refine wp_region_any hm ?_
  have := Heads.any (Q := Q) (g := l.toArray.size - n) (fun got a' w' hw' hL => by
    have := wpAny_of_seq (md := .any) (Q' := Q) (l.drop n) n got a' w' (fun j => by simp [List.getElem?_drop]) (by rw [dr]; exact hL.1) (hL.2 w' hw')
    rwa [dr] at this) _ _ _ { w with drawn := w.drawn + 1 } hC H
  rw [tk, show n + (l.toArray.size - n) = l.toArray.size by omega] at this
  exact this
theorem wp_region_wb_tail {P : Program} {id : Nat} {Q : Exit → Act → World → Prop} {a : Act} {w : World} {l : List Oper} (n : Nat) (hm : P.follows .mixedOrders = true) (hB : Region.lexTailB .any l.toArray n = true)
    (h : wpQuiet P l.toArray (fun w' => ∃ x : Wb w, w' = x.at) (fun a' => ∀ w', (∃ x : Wb w, w' = x.at) → wpList P l.toArray Q (l.drop n) a' w') (l.take n) a) : (Code.region id l.toArray true).wp P Q a w :=
  wp_region_class_tail _ ⟨⟨_, (Below.refl _ _).drew⟩, rfl⟩ n hm hB h
end Go.Proofs.YtlflknfkenfpiaaGreatDoor
namespace Go.Proofs.YtlflknfkenfpiaaGreatDoor
open Go.RowKit
def dumb : Frame := { fn := 0, tmps := #[], todo := [.code (.exit 0)], defers := [], mode := .run, kind := .normal }
theorem step_dumb {P : Program} {w : World} (v : Value) : ∃ o w', step P (lone (dumb.finish v) [] w) = .ended o w' := by
  have h : (stepG P true { frame := dumb.finish v, callers := [], status := .running, dying := none } w).bare = .ended (.stuck "exit, goto: no such block or label" ((dumb.finish v).pos P)) w := rfl
  exact ⟨_, _, step_lone_ended h⟩
theorem leaving_later {P : Program} {fr fr' : Frame} {w w' : World} {v : Value} {d : Nat} (hl : fr.leaving P w (.returned v))
    (h : runN P d (lone fr [dumb] w) = .next (lone fr' [dumb] w')) : d = 0 := by
  match d with
  | 0 => rfl
  | 1 =>
    simp only [runN, step_leave_returned hl] at h
    injection h with h
    simp [lone] at h
  | d + 2 =>
    obtain ⟨o, w1, hs⟩ := step_dumb (P := P) (w := w) v
    simp only [runN, step_leave_returned hl, hs] at h
    cases h
theorem lone_inj {fr fr' : Frame} {cs cs' : List Frame} {w w' : World} (h : lone fr cs w = lone fr' cs' w') : fr = fr' ∧ w = w' := by
  simp only [lone, Machine.mk.injEq, Array.mk.injEq, List.cons.injEq, Goroutine.mk.injEq, and_true] at h
  exact ⟨h.2.1, h.1⟩
theorem leaving_value {P : Program} {fr : Frame} {w : World} {v v' : Value} (h : fr.leaving P w (.returned v)) (h' : fr.leaving P w (.returned v')) : v = v' := by
  obtain ⟨_, _, _, fn, hf, hr⟩ := h
  obtain ⟨_, _, _, fn', hf', hr'⟩ := h'
  rw [hf] at hf'
  injection hf' with hf'
  subst hf'
  rw [hr] at hr'
  injection hr'
theorem Calls.one {P : Program} {f : FuncId} {args : Array Value} {w : World} {v v' : Value} {R R' : World → Prop}
    (h : Calls P f args w fun e w' => e = .returned v ∧ R w') (h' : Calls P f args w fun e w' => e = .returned v' ∧ R' w') : v = v' := by
  obtain ⟨e, w1, fr, ⟨he, _⟩, hc, _, hl⟩ := h [dumb]
  obtain ⟨e', w2, fr', ⟨he', _⟩, hc', _, hl'⟩ := h' [dumb]
  subst he he'
  obtain ⟨n, hn⟩ := hc
  obtain ⟨m, hm⟩ := hc'
  rcases Nat.le_total n m with c | c
  · obtain ⟨d, rfl⟩ := Nat.exists_eq_add_of_le c
    rw [runN_add, hn] at hm
    have hd := leaving_later hl hm
    subst hd
    simp only [runN] at hm
    injection hm with hm
    obtain ⟨rfl, rfl⟩ := lone_inj hm
    exact leaving_value hl hl'
  · obtain ⟨d, rfl⟩ := Nat.exists_eq_add_of_le c
    rw [runN_add, hm] at hn
    have hd := leaving_later hl' hn
    subst hd
    simp only [runN] at hn
    injection hn with hn
    obtain ⟨rfl, rfl⟩ := lone_inj hn
    exact leaving_value hl hl'
section
variable {P : Program} {ops : Array Oper} {md : Region.Mode} {W : World}
def Cls (W : World) : World → Prop := fun w' => ∃ x : Wb W, w' = x.at
def YieldsG (P : Program) (ops : Array Oper) (W : World) (o : Oper) (v : Value) (a : Act) : Prop :=
  (Region.wanted o (yielded ops a.tmps) = true ∧ ∀ y : Wb W, o.quietAt P a (Cls y.at) y.at v) ∨
  (Region.wanted o (yielded ops a.tmps) = false ∧ v = undef)
theorem Oper.quietAt_mono {o : Oper} {a : Act} {C C' : World → Prop} {w : World} {v : Value} (h : o.quietAt P a C w v) (hc : ∀ w', C w' → C' w') : o.quietAt P a C' w v := by
  unfold Oper.quietAt at *
  generalize (execOp a.eval o).run P w = r at *
  cases r with
  | ok n w' =>
    cases n <;> simp only [Oper.quietUpon] at h ⊢
    case value u => exact h
    case skip => exact h
    case enter f args => exact ⟨h.1, h.2.mono fun e w'' ⟨he, hw⟩ => ⟨he, hc _ hw⟩⟩
  | halt x w' => simp only [Oper.quietUpon] at h
theorem Oper.quietAt_one {o : Oper} {a : Act} {C C' : World → Prop} {w : World} {v v' : Value} (h : o.quietAt P a C w v) (h' : o.quietAt P a C' w v') : v = v' := by
  unfold Oper.quietAt at *
  generalize (execOp a.eval o).run P w = r at *
  cases r with
  | ok n w' =>
    cases n <;> simp only [Oper.quietUpon] at h h'
    case value u => exact h.2.symm.trans h'.2
    case skip => exact h.2.trans h'.2.symm
    case enter f args => exact Calls.one h.2 h'.2
  | halt x w' => simp only [Oper.quietUpon] at h
theorem YieldsG.yields {o : Oper} {v : Value} {a : Act} {C : World → Prop} (h : YieldsG P ops W o v a) (hin : ∀ w, C w → Cls W w) (hup : ∀ w w', C w → Cls w w' → C w') : YieldsIn P ops C o v a := by
  rcases h with ⟨hw, h⟩ | h
  · refine .inl ⟨hw, fun w hc => ?_⟩
    obtain ⟨y, rfl⟩ := hin w hc
    exact Oper.quietAt_mono (h y) fun w' h' => hup _ w' hc h'
  · exact .inr h
theorem Cls.up {w w' : World} (h : Cls W w) (h' : Cls w w') : Cls W w' := by
  obtain ⟨x, rfl⟩ := h
  obtain ⟨z, rfl⟩ := h'
  obtain ⟨u, hu⟩ := Wb.next (x := x) z.bel
  exact ⟨u, hu⟩
theorem YieldsG.put {o p : Oper} {v u : Value} {a : Act} (hy : YieldsG P ops W o v a) (hs : ∀ cs b, o.op ≠ .select cs b) (h3 : ∀ d, p.dst = some d → d ∉ o.looksAt ops) : YieldsG P ops W o v (a.put p.dst u) := by
  unfold YieldsG Oper.quietAt at *
  rw [execOp_put o hs a p.dst u h3, wanted_put o a p.dst u h3]
  exact hy
def wpG (P : Program) (ops : Array Oper) (W : World) (R : Act → Prop) : List Oper → Act → Prop
  | [], a => R a
  | o :: rest, a => ∃ v, YieldsG P ops W o v a ∧ wpG P ops W R rest (a.put o.dst v)
theorem wpG_of_quiet {R : Act → Prop} : ∀ (os : List Oper) (a : Act), (∀ y : Wb W, wpQuiet P ops (Cls y.at) R os a) → wpG P ops W R os a
  | [], a, h => h ⟨W, Below.refl _ _⟩
  | o :: rest, a, h => by
    by_cases hw : Region.wanted o (yielded ops a.tmps) = true
    · have h0 := h ⟨W, Below.refl _ _⟩
      unfold wpQuiet at h0
      rw [if_pos hw] at h0
      obtain ⟨v, hv, _⟩ := h0
      have hk : ∀ y : Wb W, o.quietAt P a (Cls y.at) y.at v ∧ wpQuiet P ops (Cls y.at) R rest (a.put o.dst v) := fun y => by
        have h1 := h y
        unfold wpQuiet at h1
        rw [if_pos hw] at h1
        obtain ⟨v1, hv1, hr1⟩ := h1
        have e : v1 = v := Oper.quietAt_one (hv1 y.at ⟨⟨_, Below.refl _ _⟩, rfl⟩) (hv y.at ⟨y, rfl⟩)
        subst e
        exact ⟨hv1 _ ⟨⟨_, Below.refl _ _⟩, rfl⟩, hr1⟩
      exact ⟨v, .inl ⟨hw, fun y => (hk y).1⟩, wpG_of_quiet rest _ fun y => (hk y).2⟩
    · refine ⟨undef, .inr ⟨by simpa using hw, rfl⟩, wpG_of_quiet rest _ fun y => ?_⟩
      have h1 := h y
      unfold wpQuiet at h1
      rw [if_neg hw] at h1
      exact h1
def Born (z : World) (b : Obj) : World → Prop := Cls (z.alloc b)
theorem Born.cls {z : Wb W} {b : Obj} {w : World} (h : Born z.at b w) : Cls W w := by
  refine Cls.up ⟨⟨_, z.bel.alloc z.size b⟩, rfl⟩ h
def blockAt (w : World) : Value := .pointer (some ⟨w.heap.size, 0, none⟩)
def Floats (P : Program) (md : Region.Mode) (ops : Array Oper) (W : World) (n : Nat) (d : Option Tmp) (b : Obj) (L : Wb W → Array Bool → Act → Prop) : Nat → Array Bool → Act → Prop
  | 0, _, _ => False
  | k + 1, got, a => Region.ready md ops got ≠ [] ∧ ∀ j, j ∈ Region.ready md ops got → j < n + 1 ∧
      (j = n → ∀ z : Wb W, Heads P md ops (Born z.at b) (n + 1) (L z) k (got.setIfInBounds n true) (a.put d (blockAt z.at))) ∧
      (j ≠ n → qOp P ops (Cls W) j (Floats P md ops W n d b L k (got.setIfInBounds j true)) a)
structure Makes (P : Program) (ops : Array Oper) (n : Nat) (o : Oper) (b : Obj) : Prop where
  at' : ops[n]? = some o
  free : o.guard = none
  run : ∀ (a : Act) (w : World), (execOp a.eval o).run P w = .ok (.value (blockAt w)) (w.alloc b)
  noSel : ∀ cs b, o.op ≠ .select cs b
theorem Makes.wp {n : Nat} {o : Oper} {b : Obj} {Q : Exit → Act → World → Prop} {K : Act → World → Prop} {a : Act} {w : World} (M : Makes P ops n o b) (h : K (a.put o.dst (blockAt w)) (w.alloc b)) : wpOp P ops Q n K a w := by
  unfold wpOp
  simp only [M.at']
  have : Region.wanted o (yielded ops a.tmps) = true := by simp [Region.wanted, M.free]
  rw [if_pos this]
  refine .inl ?_
  unfold Oper.wp
  rw [M.run]
  exact h
theorem Floats.any {n g : Nat} {o : Oper} {b : Obj} {L : Wb W → Array Bool → Act → Prop} {Q : Exit → Act → World → Prop} (M : Makes P ops n o b)
    (hL : ∀ (z : Wb W) got a w, Born z.at b w → L z got a → wpAny P md ops Q g got a w) (k : Nat) :
    ∀ got a w, Cls W w → Floats P md ops W n o.dst b L k got a → wpAny P md ops Q (k + g) got a w := by
  induction k with
  | zero => intro got a w _ h; exact h.elim
  | succ k ih =>
    intro got a w hw h
    have e : k + 1 + g = (k + g) + 1 := by omega
    rw [e]
    refine ⟨fun none => (h.1 none).elim, fun j hj => ?_⟩
    obtain ⟨_, h1, h2⟩ := h.2 j hj
    by_cases c : j = n
    · subst c
      obtain ⟨z, rfl⟩ := hw
      exact M.wp (Heads.any (C := Born z.at b) (hL z) k _ _ _ ⟨⟨_, Below.refl _ _⟩, rfl⟩ (h1 rfl z))
    · exact wpOp_of_qOp hw (fun a' w' c' h' => ih _ a' w' c' h') (h2 c)
theorem qOp_shape {C : World → Prop} {j : Nat} {p : Oper} {K : Act → Prop} {a : Act} (hj : ops[j]? = some p) (h : qOp P ops C j K a) : qOp P ops C j (fun a' => (∃ u, a' = a.put p.dst u) ∧ K a') a := by
  unfold qOp at *
  simp only [hj] at h ⊢
  split
  · rename_i hw
    simp only [hw, if_true] at h
    obtain ⟨v, h1, h2⟩ := h
    exact ⟨v, h1, ⟨_, rfl⟩, h2⟩
  · rename_i hw
    simp only [hw] at h
    exact ⟨⟨_, rfl⟩, h⟩
theorem Floats.first {n i : Nat} {o p : Oper} {v : Value} {b : Obj} {L : Wb W → Array Bool → Act → Prop} (S : Shape md ops (n + 1)) (M : Makes P ops n p b) (hi : ops[i]? = some o) (hin : i < n)
    (done : ∀ z got a, L z got a → ∀ j ∈ Region.ready md ops got, n + 1 ≤ j) (k : Nat) :
    ∀ got a, HeadInv md ops (n + 1) got →
      (∀ j q, ops[j]? = some q → j ≠ i → got.getD j true = false → (∀ e ∈ q.after, Region.binds md e = true → e.on ≠ i) → o.apart ops q = true) →
      i ∈ Region.ready md ops got → YieldsG P ops W o v a →
      Floats P md ops W n p.dst b L k (got.setIfInBounds i true) (a.put o.dst v) → Floats P md ops W n p.dst b L (k + 1) got a := by
  have sel : ∀ (j : Nat) (q : Oper) cs d, ops[j]? = some q → q.op ≠ .select cs d := fun j q cs d h => Region.noSelect_spec S.sel j q cs d h
  induction k with
  | zero => intro got a _ _ _ _ H; exact H.elim
  | succ k ih =>
    intro got a inv apart hr hy H
    refine ⟨fun none => (by rw [none] at hr; cases hr), fun j hj => ⟨S.head inv hr (by omega) hj, fun hjn z => ?_, fun hjn => ?_⟩⟩
    · subst hjn
      have hji : j ≠ i := by omega
      obtain ⟨jun, q, hq, waits⟩ := mem_ready.1 hj
      have : q = p := Option.some.inj (hq.symm.trans M.at')
      subst this
      have no : ∀ e ∈ q.after, Region.binds md e = true → e.on ≠ i := fun e he hb on => by
        have h1 := waits e he hb
        rw [on, getD_both (mem_ready.1 hr).1] at h1
        cases h1
      obtain ⟨a1, a2, a3⟩ := Oper.apart_spec (apart j q hq hji jun no)
      have h1 := (H.2 j (ready_mono hj hji)).2.1 rfl z
      refine Heads.first S hi (by omega) (done z) k _ _ (inv.set hj (by omega)) (fun m r hm hmi hun hno => ?_) (ready_mono hr (Ne.symm hji)) ((hy.put (fun cs d => sel i o cs d hi) a3).yields (fun w h => Born.cls h) (fun w w' h h' => Cls.up h h')) ?_
      · refine apart m r hm hmi ?_ hno
        by_cases hjm : j = m
        · subst hjm; exact jun
        · rw [getD_set_ne true hjm] at hun; exact hun
      · rw [Array.setIfInBounds_comm _ _ hji, ← Act.put_comm a v _ a2]
        exact h1
    · by_cases hji : j = i
      · subst hji; exact (hy.yields (fun w h => h) (fun w w' h h' => Cls.up h h')).qOp hi H
      · obtain ⟨jun, q, hq, waits⟩ := mem_ready.1 hj
        have no : ∀ e ∈ q.after, Region.binds md e = true → e.on ≠ i := fun e he hb on => by
          have h1 := waits e he hb
          rw [on, getD_both (mem_ready.1 hr).1] at h1
          cases h1
        have ap := apart j q hq hji jun no
        obtain ⟨a1, a2, a3⟩ := Oper.apart_spec ap
        have h2 := qOp_shape hq (qOp_put hq ap (fun cs d => sel i o cs d hi) (fun cs d => sel j q cs d hq) (hy.yields (fun w h => h) (fun w w' h h' => Cls.up h h')) ((H.2 j (ready_mono hj hji)).2.2 hjn))
        refine qOp_mono (fun a' h3 => ?_) h2
        obtain ⟨⟨u, rfl⟩, _, h4⟩ := h3
        refine ih (got.setIfInBounds j true) _ (inv.set hj (S.head inv hr (by omega) hj)) (fun m r hm hmi hun hno => ?_) (ready_mono hr (Ne.symm hji)) (hy.put (fun cs d => sel i o cs d hi) a3) ?_
        · refine apart m r hm hmi ?_ hno
          by_cases hjm : j = m
          · subst hjm; exact jun
          · rw [getD_set_ne true hjm] at hun; exact hun
        · rw [Array.setIfInBounds_comm _ _ hji]
          exact h4
theorem Floats.lex {n g : Nat} {p : Oper} {b : Obj} {R : Act → Prop} {R' : Wb W → Act → Prop} (S : Shape md ops (n + 1)) (M : Makes P ops n p b) (hR : ∀ a (z : Wb W), R a → R' z (a.put p.dst (blockAt z.at))) :
    ∀ (os : List Oper) (k : Nat) (got : Array Bool) (a : Act), (∀ j, j < os.length → os[j]? = ops[k + j]?) → k + os.length = n → HeadInv md ops (n + 1) got →
    Region.lexHead md ops g (os.length + 1) k got = true → wpG P ops W R os a →
    Floats P md ops W n p.dst b (fun z got' a' => Region.seqB md ops g (n + 1) got' = true ∧ R' z a') (os.length + 1) got a := by
  intro os
  induction os with
  | nil =>
    intro k got a _ hk inv hB h
    have e : k = n := by simpa using hk
    subst e
    simp only [List.length_nil, Nat.zero_add, Region.lexHead, Bool.and_eq_true] at hB
    have hr : k ∈ Region.ready md ops got := by simpa using hB.1.1
    refine ⟨fun none => (by rw [none] at hr; cases hr), fun j hj => ⟨S.head inv hr (by omega) hj, fun _ z => ⟨hB.2, hR _ z h⟩, fun hjk => ?_⟩⟩
    have h1 := seqB_ready hB.2 j (ready_mono hj hjk)
    have h2 := S.head inv hr (by omega) hj
    omega
  | cons o os ih =>
    intro k got a hl hk inv hB h
    have h0 : ops[k]? = some o := by simpa using (hl 0 (by simp)).symm
    simp only [List.length_cons] at hk
    simp only [List.length_cons] at hB
    rw [Region.lexHead] at hB
    simp only [Bool.and_eq_true] at hB
    have hr : k ∈ Region.ready md ops got := by simpa using hB.1.1
    obtain ⟨v, hy, hK⟩ := h
    refine Floats.first S M h0 (by omega) (fun z got' a' hL => seqB_ready hL.1) (os.length + 1) got a inv (Region.free_spec h0 hB.1.2) hr hy (ih (k + 1) _ _ (fun j hj => ?_) (by omega) (inv.set hr (by omega)) hB.2 hK)
    have := hl (j + 1) (by simp; omega)
    simpa [Nat.add_assoc, Nat.add_comm 1 j] using this
end
theorem wp_region_wb_block {P : Program} {id : Nat} {Q : Exit → Act → World → Prop} {a : Act} {w : World} {l : List Oper} (n : Nat) (p : Oper) (b : Obj) (hm : P.follows .mixedOrders = true) (hB : Region.lexTailB .any l.toArray (n + 1) = true)
    (hp : l[n]? = some p) (hg : p.guard = none) (hrun : ∀ (a : Act) (w : World), (execOp a.eval p).run P w = .ok (.value (.pointer (some ⟨w.heap.size, 0, none⟩))) (w.alloc b)) (hs : ∀ cs d, p.op ≠ .select cs d)
    (h : ∀ y : Wb w, wpQuiet P l.toArray (fun w' => ∃ x : Wb y.at, w' = x.at) (fun a' => ∀ (z : Wb w) (x : Wb (z.at.alloc b)), wpList P l.toArray Q (l.drop (n + 1)) (a'.put p.dst (.pointer (some ⟨z.at.heap.size, 0, none⟩))) x.at) (l.take n) a) :
    (Code.region id l.toArray true).wp P Q a w := by
  simp only [Region.lexTailB, Bool.and_eq_true, decide_eq_true_eq] at hB
  obtain ⟨⟨⟨⟨sel, lt⟩, sink⟩, chain⟩, lex⟩ := hB
  have S : Shape .any l.toArray (n + 1) := ⟨sel, sink, chain, lt⟩
  have M : Makes P l.toArray n p b := ⟨by simpa using hp, hg, hrun, hs⟩
  have lt' : n + 1 < l.length := by simpa using lt
  have tk : (l.take n).length = n := by simp; omega
  have dr : (l.drop (n + 1)).length = l.toArray.size - (n + 1) := by simp
  have inv : HeadInv .any l.toArray (n + 1) (Array.replicate l.toArray.size false) :=
    ⟨by simp, fun j p _ hj => (by rw [getD_replicate_false] at hj; cases hj), fun t _ ht => getD_in (by simpa using ht) (getD_replicate_false _ _)⟩
  have H := Floats.lex (md := .any) (g := l.toArray.size - (n + 1)) (W := w) (p := p) (b := b)
    (R := fun a' => ∀ (z : Wb w) (x : Wb (z.at.alloc b)), wpList P l.toArray Q (l.drop (n + 1)) (a'.put p.dst (blockAt z.at)) x.at)
    (R' := fun z a' => ∀ x : Wb (z.at.alloc b), wpList P l.toArray Q (l.drop (n + 1)) a' x.at)
    S M (fun a' z h' => h' z) (l.take n) 0 _ a (fun j hj => by
    have hj' : j < n := by rw [tk] at hj; exact hj
    simp [hj']) (by simpa using tk) inv (by rw [tk]; exact lex) (wpG_of_quiet _ _ h)
  refine wp_region_any hm ?_
  have := Floats.any (W := w) (Q := Q) (g := l.toArray.size - (n + 1)) M (fun z got a' w' hw' hL => by
    obtain ⟨x, rfl⟩ := hw'
    have := wpAny_of_seq (md := .any) (Q' := Q) (l.drop (n + 1)) (n + 1) got a' x.at (fun j => by simp [List.getElem?_drop]) (by rw [dr]; exact hL.1) (hL.2 x)
    rwa [dr] at this) _ _ _ { w with drawn := w.drawn + 1 } ⟨⟨_, (Below.refl _ _).drew⟩, rfl⟩ H
  rw [tk, show n + 1 + (l.toArray.size - (n + 1)) = l.toArray.size by omega] at this
  exact this
end Go.Proofs.YtlflknfkenfpiaaGreatDoor
namespace Go.Proofs.YtlflknfkenfpiaaGreatDoor
open Go.RowKit
def Row (V : World) (B : Nat) (L : List Value) (T : TypeId) : Prop := V.heap[B]? = some (.cells L.toArray T (0, 0))
theorem Row.heap {V : World} {B : Nat} {L : List Value} {T : TypeId} (h : Row V B L T) : V.heap[B]? = some (.cells L.toArray T (0, 0)) := h
theorem Row.lt {V : World} {B : Nat} {L : List Value} {T : TypeId} (h : Row V B L T) : B < V.heap.size := by
  by_cases c : B < V.heap.size
  · exact c
  · have := h.heap
    rw [Array.getElem?_eq_none (by omega)] at this
    cases this
theorem Row.cell {V : World} {B : Nat} {L : List Value} {T : TypeId} (h : Row V B L T) (i : Nat) : V.cell? ⟨B, i, none⟩ = L[i]? := by
  rw [cell_of_row V B i L.toArray T (0, 0) h]
  simp
theorem Row.free {V : World} {B : Nat} {L : List Value} {T : TypeId} (h : Row V B L T) (i : Nat) : V.frozen? ⟨B, i, none⟩ = false := frozen_of_row V B i L.toArray T h
theorem Row.new (V : World) (L : List Value) (T : TypeId) : Row (V.alloc (.cells L.toArray T)) V.heap.size L T := heap_alloc_new V _
theorem Row.new' (V : World) (L : List Value) (T : TypeId) (n : Nat) (h : V.heap.size = n) : Row (V.alloc (.cells L.toArray T)) n L T := h ▸ Row.new V L T
theorem Row.old {V : World} {B : Nat} {L : List Value} {T : TypeId} (h : Row V B L T) (o : Obj) : Row (V.alloc o) B L T := (Below.heap_alloc V o B h.lt).trans h
theorem Row.drew {V : World} {B : Nat} {L : List Value} {T : TypeId} (h : Row V B L T) : Row V.drew B L T := h
theorem Row.drewN {V : World} {B : Nat} {L : List Value} {T : TypeId} (h : Row V B L T) (n : Nat) : Row (V.drewN n) B L T := h
theorem Row.below {V U : World} {B : Nat} {L : List Value} {T : TypeId} (h : Row V B L T) (k : Below V.heap.size V U) : Row U B L T := (k.block B h.lt).trans h
theorem Row.set {V : World} {B : Nat} {L : List Value} {T : TypeId} (h : Row V B L T) (i : Nat) (v : Value) : Row (V.setCell ⟨B, i, none⟩ v) B (L.set i v) T := by
  have := heap_setCell_same V B i L.toArray T v h
  unfold Row
  rw [this]
  simp
theorem Row.other {V : World} {B : Nat} {L : List Value} {T : TypeId} (h : Row V B L T) (a : Addr) (v : Value) (hn : B ≠ a.block) : Row (V.setCell a v) B L T := (heap_setCell_other V a B v hn).trans h
theorem Row.oth {V : World} {B : Nat} {L : List Value} {T : TypeId} (h : Row V B L T) {C : Nat} (hn : B ≠ C) (i : Nat) (v : Value) : Row (V.setCell ⟨C, i, none⟩ v) B L T := h.other _ v hn
theorem KB.put {w V : World} (h : Below w.heap.size w V) {C : Nat} (hp : w.heap.size ≤ C) (i : Nat) (v : Value) : Below w.heap.size w (V.setCell ⟨C, i, none⟩ v) := h.setCell hp v
theorem Row.next {V U : World} {B : Nat} {L : List Value} {T : TypeId} (h : Row V B L T) (k : Below V.heap.size V U) : ∀ z : Wb U, Row z.at B L T := fun z => (h.below k).below z.bel
theorem Row.at {V : World} {B : Nat} {L : List Value} {T : TypeId} (h : Row V B L T) : ∀ z : Wb V, Row z.at B L T := fun z => h.below z.bel
theorem Row.upto {V U : World} {B m : Nat} {L : List Value} {T : TypeId} (h : Row V B L T) (k : Below m V U) (hm : B < m) : Row U B L T := (k.block B hm).trans h
theorem KB.start (w : World) : ∀ z : Wb w, Below w.heap.size w z.at := fun z => z.bel
theorem KB.next {w V U : World} (h : Below w.heap.size w V) (k : Below V.heap.size V U) : ∀ z : Wb U, Below w.heap.size w z.at := fun z => (h.trans (k.mono h.size)).trans (z.bel.mono (Nat.le_trans h.size k.size))
theorem KB.at {w V : World} (h : Below w.heap.size w V) : ∀ z : Wb V, Below w.heap.size w z.at := fun z => h.trans (z.bel.mono h.size)
theorem KB.alloc {w V : World} (h : Below w.heap.size w V) (o : Obj) : Below w.heap.size w (V.alloc o) := h.alloc h.size o
theorem KB.set {w V : World} (h : Below w.heap.size w V) (a : Addr) (v : Value) (hp : w.heap.size ≤ a.block) : Below w.heap.size w (V.setCell a v) := h.setCell hp v
theorem to_cls {P : Program} {c : Code} {Q : Exit → Act → World → Prop} {a : Act} {V : World} (h : ∀ U, Below V.heap.size V U → ∀ z : Wb U, c.wp P Q a z.at) : c.wp P Q a V := h V (Below.refl _ _) ⟨V, Below.refl _ _⟩
end Go.Proofs.YtlflknfkenfpiaaGreatDoor
namespace Go.Proofs.YtlflknfkenfpiaaGreatDoor
open Go.RowKit
def SlAt (W : World) (v : Value) (K n : Nat) (xs : List Value) : Prop :=
  xs.length = n * K ∧ ((v = .slice none 0 0 ∧ n = 0) ∨ ∃ a cap, v = .slice (some a) n cap ∧ n ≤ cap ∧ cap ≤ maxLen ∧ ∀ j u, xs[j]? = some u → W.cell? (a.add j) = some u)
theorem add_block (a : Addr) (j : Nat) : (a.add j).block = a.block := by unfold Addr.add; split <;> rfl
theorem add_add (a : Addr) (i j : Nat) : (a.add i).add j = a.add (i + j) := by
  unfold Addr.add
  by_cases hi : i = 0 <;> by_cases hj : j = 0 <;> simp [hi, hj, Nat.add_assoc]
theorem SlAt.keep {W U : World} {v : Value} {K n : Nat} {xs : List Value} (h : SlAt W v K n xs) (k : ∀ b u o, W.cell? ⟨b, o, none⟩ = some u → U.heap[b]? = W.heap[b]?) (k' : ∀ (a : Addr) u, W.cell? a = some u → U.heap[a.block]? = W.heap[a.block]?) : SlAt U v K n xs := by
  obtain ⟨h1, h2 | ⟨a, cap, e, hc, hm, hx⟩⟩ := h
  · exact ⟨h1, .inl h2⟩
  · refine ⟨h1, .inr ⟨a, cap, e, hc, hm, fun j u hj => ?_⟩⟩
    have := hx j u hj
    rw [World.cell?_of_block (w := W) (k' _ _ this)]
    exact this
theorem SlAt.below {W U : World} {v : Value} {K n : Nat} {xs : List Value} (h : SlAt W v K n xs) (k : Below W.heap.size W U) : SlAt U v K n xs :=
  h.keep (fun b u o hc => k.block b (World.block_lt_of_cell? W _ hc)) (fun a u hc => k.block a.block (World.block_lt_of_cell? W _ hc))
theorem SlAt.upto {W U : World} {m : Nat} {v : Value} {K n : Nat} {xs : List Value} (h : SlAt W v K n xs) (k : Below m W U) (hm : W.heap.size ≤ m) : SlAt U v K n xs := h.below (k.mono hm)
theorem SlAt.len {W : World} {v : Value} {K n : Nat} {xs : List Value} (h : SlAt W v K n xs) : xs.length = n * K := h.1
theorem SlAt.own {W : World} {base : Nat} {e : TypeId} {K n : Nat} {v : Value} {xs : List Value} (h : W.ownsRow base e K v n xs) : SlAt W v K n xs := by
  have hc := fun g (hg : v.ownBlock = some g) => World.ownsRow.cells h hg
  obtain ⟨h1, ⟨rfl, h0⟩ | ⟨g, cap, cur, rfl, hb, _, hn, hm, _⟩⟩ := h
  · exact ⟨h1, .inl ⟨rfl, h0⟩⟩
  · exact ⟨h1, .inr ⟨⟨g, 0, none⟩, cap, rfl, hn, hm, fun j u hj => hc g rfl j u hj⟩⟩
def NB (v : Value) (b : Nat) : Prop := ∀ a n cap, v = .slice (some a) n cap → a.block ≠ b
theorem NB.nil (b : Nat) : NB (.slice none 0 0) b := fun _ _ _ h => by cases h
theorem SlAt.set {W : World} {v : Value} {K n : Nat} {xs : List Value} (h : SlAt W v K n xs) {C : Nat} (hn : NB v C) (i : Nat) (u : Value) : SlAt (W.setCell ⟨C, i, none⟩ u) v K n xs := by
  obtain ⟨h1, h2 | ⟨a, cap, e, hc, hm, hx⟩⟩ := h
  · exact ⟨h1, .inl h2⟩
  · refine ⟨h1, .inr ⟨a, cap, e, hc, hm, fun j w hj => ?_⟩⟩
    refine (World.cell?_setCell_other _ _ _ _ (fun e2 => ?_)).trans (hx j w hj)
    have := congrArg Addr.block e2
    rw [add_block] at this
    exact hn a n cap e this.symm
theorem SlAt.form {W : World} {v : Value} {K n : Nat} {xs : List Value} (h : SlAt W v K n xs) : ∃ p m c, v = .slice p m c := by
  obtain ⟨_, ⟨rfl, _⟩ | ⟨a, cap, rfl, _⟩⟩ := h
  · exact ⟨_, _, _, rfl⟩
  · exact ⟨_, _, _, rfl⟩
theorem SlAt.nil (W : World) (K : Nat) : SlAt W (.slice none 0 0) K 0 [] := ⟨by simp, .inl ⟨rfl, rfl⟩⟩
end Go.Proofs.YtlflknfkenfpiaaGreatDoor
