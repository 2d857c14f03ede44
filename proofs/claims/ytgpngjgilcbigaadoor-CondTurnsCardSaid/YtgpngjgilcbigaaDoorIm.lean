/-
  PLAIN NUMBERS for layer 3: instructions and their words. No program in sight.
-/
import Derived.Test.YtgpngjgilcbigaaDoorFm
set_option linter.unusedSimpArgs false
set_option linter.unusedVariables false
namespace GrI

structure I where
  op : Int
  d : Int
  n : Int
  m : Int
  imm : Int
  kind : Int

def zero : I := ⟨0, 0, 0, 0, 0, 0⟩
theorem I.ext {a b : I} (h1 : a.op = b.op) (h2 : a.d = b.d) (h3 : a.n = b.n) (h4 : a.m = b.m) (h5 : a.imm = b.imm) (h6 : a.kind = b.kind) : a = b := by
  cases a; cases b; simp_all

/-- which parts an operation has, as the page sums them; -1: there is none such -/
def parts (op : Int) : Int :=
  if op = 1 ∨ op = 20 ∨ op = 22 then 0
  else if op = 2 ∨ op = 3 ∨ op = 7 then 11
  else if op = 4 ∨ op = 5 then 3
  else if op = 6 then 25
  else if op = 8 ∨ op = 9 ∨ op = 10 ∨ op = 11 ∨ op = 12 ∨ op = 13 then 7
  else if op = 14 then 8
  else if op = 15 ∨ op = 16 then 9
  else if op = 17 then 24
  else if op = 18 ∨ op = 19 then 16
  else if op = 21 ∨ op = 23 then 17
  else -1

/-- what is asked of an operation's own numbers -/
def nums (x : I) : Prop :=
  if x.op = 2 ∨ x.op = 3 then 0 ≤ x.imm ∧ x.imm ≤ 32760 ∧ x.imm % 8 = 0
  else if x.op = 7 then 0 ≤ x.imm ∧ x.imm ≤ 4095
  else if x.op = 6 then 0 ≤ x.imm ∧ x.imm ≤ 65535 ∧ 0 ≤ x.kind ∧ x.kind ≤ 3
  else if x.op = 14 then -33554432 ≤ x.imm ∧ x.imm ≤ 33554431
  else if x.op = 15 ∨ x.op = 16 then -262144 ≤ x.imm ∧ x.imm ≤ 262143
  else if x.op = 17 then -262144 ≤ x.imm ∧ x.imm ≤ 262143 ∧ 0 ≤ x.kind ∧ x.kind ≤ 1
  else if x.op = 18 ∨ x.op = 19 then (9 ≤ x.kind ∧ x.kind ≤ 11) ∨ (13 ≤ x.kind ∧ x.kind ≤ 15)
  else if x.op = 21 then 0 ≤ x.kind ∧ x.kind ≤ 7 ∧ (x.kind % 4 ≠ 0 ∨ x.d = 31)
  else if x.op = 23 then 0 ≤ x.kind ∧ x.kind ≤ 2
  else True
instance (x : I) : Decidable (nums x) := by unfold nums; infer_instance

def right (x : I) : Prop :=
  1 ≤ x.op ∧ x.op ≤ 23 ∧ 0 ≤ x.d ∧ x.d ≤ 31 ∧ 0 ≤ x.n ∧ x.n ≤ 31 ∧ 0 ≤ x.m ∧ x.m ≤ 31 ∧
  (parts x.op % 2 = 1 ∨ x.d = 0) ∧ (parts x.op / 2 % 2 = 1 ∨ x.n = 0) ∧ (parts x.op / 4 % 2 = 1 ∨ x.m = 0) ∧ (parts x.op / 8 % 2 = 1 ∨ x.imm = 0) ∧ (parts x.op / 16 % 2 = 1 ∨ x.kind = 0) ∧ nums x
instance (x : I) : Decidable (right x) := by unfold right; infer_instance

/-- the word of an instruction that is right -/
def word (x : I) : Int :=
  let w := x.d + x.n * 32 + x.m * 65536
  if x.op = 1 then 3573751839
  else if x.op = 2 then 4181721088 + w + x.imm / 8 % 4096 * 1024
  else if x.op = 3 then 4177526784 + w + x.imm / 8 % 4096 * 1024
  else if x.op = 4 then 3370122240 + w
  else if x.op = 5 then 3365927936 + w
  else if x.op = 6 then 3531603968 + w + x.kind % 4 * 2097152 + x.imm % 65536 * 32
  else if x.op = 7 then 2432696320 + w + x.imm % 4096 * 1024
  else if x.op = 8 then 2332033024 + w
  else if x.op = 9 then 3405774848 + w
  else if x.op = 10 then 2315255808 + w
  else if x.op = 11 then 2852126720 + w
  else if x.op = 12 then 3388997632 + w
  else if x.op = 13 then 3942645760 + w
  else if x.op = 14 then 335544320 + x.imm % 67108864
  else if x.op = 15 then 3019898880 + x.d + x.imm % 524288 * 32
  else if x.op = 16 then 3036676096 + x.d + x.imm % 524288 * 32
  else if x.op = 17 then 1409286144 + x.kind + x.imm % 524288 * 32
  else if x.op = 18 then 3573756095 + x.kind * 256
  else if x.op = 19 then 3573756063 + x.kind * 256
  else if x.op = 20 then 3573759967
  else if x.op = 22 then 3600745440
  else if x.op = 21 then 3574104832 + x.d + (if x.kind % 4 = 0 then 0 else if x.kind % 4 = 1 then 32 else if x.kind % 4 = 2 then 96 else 64) + x.kind / 4 * 1024
  else (if x.kind = 0 then 3577238016 else if x.kind = 1 then 3577241600 else 3577233440) + x.d

/-- an operation that is right is one of 23 -/
theorem ops {x : I} (h : right x) : x.op = 1 ∨ x.op = 2 ∨ x.op = 3 ∨ x.op = 4 ∨ x.op = 5 ∨ x.op = 6 ∨ x.op = 7 ∨ x.op = 8 ∨ x.op = 9 ∨ x.op = 10 ∨ x.op = 11 ∨ x.op = 12 ∨ x.op = 13 ∨ x.op = 14 ∨ x.op = 15 ∨ x.op = 16 ∨ x.op = 17 ∨ x.op = 18 ∨ x.op = 19 ∨ x.op = 20 ∨ x.op = 21 ∨ x.op = 22 ∨ x.op = 23 := by
  obtain ⟨h1, h2, _⟩ := h
  omega

/-- where the words of an operation lie: [lo, hi), and for two of them what a part of the word is -/
def cls (w : Int) : Int :=
  if 4181721088 ≤ w ∧ w < 4185915392 then 2
  else if 4177526784 ≤ w ∧ w < 4181721088 then 3
  else if 3370122240 ≤ w ∧ w < 3370123264 then 4
  else if 3365927936 ≤ w ∧ w < 3365928960 then 5
  else if 3531603968 ≤ w ∧ w < 3539992576 then 6
  else if 2432696320 ≤ w ∧ w < 2436890624 then 7
  else if 2332033024 ≤ w ∧ w < 2334130176 then 8
  else if 3405774848 ≤ w ∧ w < 3407872000 then 9
  else if 2315255808 ≤ w ∧ w < 2317352960 then 10
  else if 2852126720 ≤ w ∧ w < 2854223872 then 11
  else if 3388997632 ≤ w ∧ w < 3391094784 then 12
  else if 3942645760 ≤ w ∧ w < 3944742912 then 13
  else if 335544320 ≤ w ∧ w < 402653184 then 14
  else if 3019898880 ≤ w ∧ w < 3036676096 then 15
  else if 3036676096 ≤ w ∧ w < 3053453312 then 16
  else if 1409286144 ≤ w ∧ w < 1426063360 then 17
  else if w = 3573751839 then 1
  else if w = 3573759967 then 20
  else if w = 3600745440 then 22
  else if 3574104832 ≤ w ∧ w < 3574106880 then 21
  else if 3577233440 ≤ w ∧ w < 3577241632 then 23
  else if w % 256 = 191 then 18
  else 19

/-- a word tells its operation -/
theorem cls_word (x : I) (h : right x) : cls (word x) = x.op := by
  obtain ⟨op, d, n, m, imm, kind⟩ := x
  have ho := ops h
  simp only at ho
  rcases ho with rfl | rfl | rfl | rfl | rfl | rfl | rfl | rfl | rfl | rfl | rfl | rfl | rfl | rfl | rfl | rfl | rfl | rfl | rfl | rfl | rfl | rfl | rfl
  all_goals
    simp [right, parts, nums] at h
    simp only [word]
    simp only [Int.reduceEq, if_true, if_false, or_false, or_true, false_or, true_or]
    unfold cls
  all_goals try (repeat (first | rw [if_pos (by omega)] | rw [if_neg (by omega)]))
  all_goals split
  all_goals try (repeat (first | rw [if_pos (by omega)] | rw [if_neg (by omega)]))
  all_goals split
  all_goals try (repeat (first | rw [if_pos (by omega)] | rw [if_neg (by omega)]))
  all_goals split
  all_goals try (repeat (first | rw [if_pos (by omega)] | rw [if_neg (by omega)]))
def sign (n size : Int) : Int := if size / 2 ≤ n then n - size else n
/-- what instruction a word would be, of an operation and, for two of them, of a kind (the page's own way) -/
def guess (op w kind : Int) : I :=
  { op := op
    d := if parts op % 2 = 1 then w % 32 else 0
    n := if parts op / 2 % 2 = 1 then w / 32 % 32 else 0
    m := if parts op / 4 % 2 = 1 then w / 65536 % 32 else 0
    imm := if op = 2 ∨ op = 3 then w / 1024 % 4096 * 8 else if op = 7 then w / 1024 % 4096 else if op = 6 then w / 32 % 65536
      else if op = 14 then sign (w % 67108864) 67108864 else if op = 15 ∨ op = 16 ∨ op = 17 then sign (w / 32 % 524288) 524288 else 0
    kind := if op = 6 then w / 2097152 % 4 else if op = 17 then w % 32 else if op = 18 ∨ op = 19 then w / 256 % 16 else if op = 21 ∨ op = 23 then kind else 0 }

theorem guess_word (x : I) (h : right x) : guess x.op (word x) x.kind = x := by
  obtain ⟨op, d, n, m, imm, kind⟩ := x
  have ho := ops h
  simp only at ho
  rcases ho with rfl | rfl | rfl | rfl | rfl | rfl | rfl | rfl | rfl | rfl | rfl | rfl | rfl | rfl | rfl | rfl | rfl | rfl | rfl | rfl | rfl | rfl | rfl
  all_goals
    simp [right, parts, nums] at h
    simp only [word, guess, parts, sign]
    simp only [Int.reduceEq, if_true, if_false, or_false, or_true, false_or, true_or, Int.reduceMod, Int.reduceDiv]
  all_goals
    apply I.ext <;> simp only
  all_goals try omega
  all_goals try (split <;> omega)
  all_goals try (split <;> (try split) <;> (try split) <;> omega)

/-- UNLIKE INSTRUCTIONS HAVE UNLIKE WORDS. -/
theorem word_inj (x y : I) (hx : right x) (hy : right y) (h : word x = word y) : x = y := by
  have e1 : x.op = y.op := by rw [← cls_word x hx, ← cls_word y hy, h]
  have hk : x.kind = y.kind := by
    by_cases hk : x.op = 21 ∨ x.op = 23
    · obtain ⟨op, d, n, m, imm, kind⟩ := x
      obtain ⟨op', d', n', m', imm', kind'⟩ := y
      simp only at e1 hk
      subst e1
      rcases hk with rfl | rfl
      · simp [right, parts, nums] at hx hy
        simp only [word] at h
        simp only [Int.reduceEq, if_true, if_false, or_false] at h
        simp only
        have a1 : kind % 4 = 0 ∨ kind % 4 = 1 ∨ kind % 4 = 2 ∨ kind % 4 = 3 := by omega
        have a2 : kind' % 4 = 0 ∨ kind' % 4 = 1 ∨ kind' % 4 = 2 ∨ kind' % 4 = 3 := by omega
        rcases a1 with a1 | a1 | a1 | a1 <;> rcases a2 with a2 | a2 | a2 | a2 <;> simp [a1, a2] at h <;> omega
      · simp [right, parts, nums] at hx hy
        simp only [word] at h
        simp only [Int.reduceEq, if_true, if_false, or_false] at h
        simp only
        have a1 : kind = 0 ∨ kind = 1 ∨ kind = 2 := by omega
        have a2 : kind' = 0 ∨ kind' = 1 ∨ kind' = 2 := by omega
        rcases a1 with rfl | rfl | rfl <;> rcases a2 with rfl | rfl | rfl <;> simp at h <;> first | rfl | omega
    · have ek : ∀ k k', (guess x.op (word x) k).kind = (guess x.op (word x) k').kind := by
        intro k k'
        unfold guess
        simp only
        rw [if_neg hk, if_neg hk]
      have e2 := congrArg I.kind (guess_word x hx)
      have e3 := congrArg I.kind (guess_word y hy)
      rw [← e2, ← e3, ← e1, ← h]
      exact ek _ _
  rw [← guess_word x hx, ← guess_word y hy, ← e1, ← h, hk]
end GrI
