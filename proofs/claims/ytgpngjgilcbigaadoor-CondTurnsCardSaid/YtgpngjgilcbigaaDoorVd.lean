/-
  PLAIN TEXTS for layer 4: words of a text, names of registers. No program in sight.
  PLAIN TEXTS for layer 4: an instruction's text, its words read again. No program in sight.
-/
import Derived.Test.YtgpngjgilcbigaaDoorHa
import Derived.Test.YtgpngjgilcbigaaDoorIm
import Derived.Lib.Strings
set_option linter.unusedSimpArgs false
set_option linter.unusedVariables false
namespace GrA
open GrP
abbrev Tx := List UInt8
def signB (c : UInt8) : Bool := c == 44 || c == 91 || c == 93
def blankB (c : UInt8) : Bool := c == 32 || c == 9
def flush (cur : Tx) : List Tx := if cur = [] then [] else [cur]
def go : Tx → Tx → List Tx
  | cur, [] => flush cur
  | cur, c :: t => if signB c = true then flush cur ++ [c] :: go [] t else if blankB c = true then flush cur ++ go [] t else go (cur ++ [c]) t
def words (s : Tx) : List Tx := go [] s
theorem sign_blank : ∀ c : UInt8, signB c = true → blankB c = false := by
  intro c h
  simp only [signB, blankB, Bool.or_eq_true, beq_iff_eq, Bool.or_eq_false_iff, beq_eq_false_iff_ne] at *
  rcases h with (rfl | rfl) | rfl <;> decide
theorem go_sign {cur t : Tx} {c : UInt8} (h : signB c = true) : go cur (c :: t) = flush cur ++ [c] :: go [] t := by rw [go, if_pos h]
theorem go_blank {cur t : Tx} {c : UInt8} (h : signB c = false) (h2 : blankB c = true) : go cur (c :: t) = flush cur ++ go [] t := by rw [go, if_neg (by rw [h]; simp), if_pos h2]
theorem go_plain {cur t : Tx} {c : UInt8} (h : signB c = false) (h2 : blankB c = false) : go cur (c :: t) = go (cur ++ [c]) t := by rw [go, if_neg (by rw [h]; simp), if_neg (by rw [h2]; simp)]
theorem go_length (cur t : Tx) : (go cur t).length ≤ cur.length + t.length := by
  induction t generalizing cur with
  | nil => unfold go flush; split <;> rename_i h <;> simp; cases cur <;> simp_all
  | cons c t ih =>
    have hf : (flush cur).length ≤ cur.length := by unfold flush; split <;> rename_i h <;> simp; cases cur <;> simp_all
    rw [go]
    split
    · have := ih []
      simp at *; omega
    · split
      · have := ih []
        simp at *; omega
      · have := ih (cur ++ [c])
        simp at *; omega
/-- a register's name -/
def reg (n : Int) : Tx := if 0 ≤ n ∧ n < 31 then 88 :: Go.Lib.itoa n else if n = 31 then [88, 90, 82] else []
end GrA

namespace GrA
open GrP
def names : List Tx := [[],
  [78, 79, 80] /- NOP -/,
  [76, 68, 82] /- LDR -/,
  [83, 84, 82] /- STR -/,
  [76, 68, 65, 82] /- LDAR -/,
  [83, 84, 76, 82] /- STLR -/,
  [77, 79, 86] /- MOV -/,
  [65, 68, 68] /- ADD -/,
  [65, 68, 68] /- ADD -/,
  [83, 85, 66] /- SUB -/,
  [65, 78, 68] /- AND -/,
  [79, 82, 82] /- ORR -/,
  [69, 79, 82] /- EOR -/,
  [83, 85, 66, 83] /- SUBS -/,
  [66] /- B -/,
  [67, 66, 90] /- CBZ -/,
  [67, 66, 78, 90] /- CBNZ -/,
  [],
  [68, 77, 66] /- DMB -/,
  [68, 83, 66] /- DSB -/,
  [73, 83, 66] /- ISB -/,
  [84, 76, 66, 73] /- TLBI -/,
  [69, 82, 69, 84] /- ERET -/,
  [77, 82, 83] /- MRS -/]
def conds : List Tx := [[66, 46, 69, 81] /- B.EQ -/,
  [66, 46, 78, 69] /- B.NE -/]
def bars : List Tx := [[],
  [],
  [],
  [],
  [],
  [],
  [],
  [],
  [],
  [73, 83, 72, 76, 68] /- ISHLD -/,
  [73, 83, 72, 83, 84] /- ISHST -/,
  [73, 83, 72] /- ISH -/,
  [],
  [76, 68] /- LD -/,
  [83, 84] /- ST -/,
  [83, 89] /- SY -/]
def flushes : List Tx := [[86, 77, 65, 76, 76, 69, 49, 73, 83] /- VMALLE1IS -/,
  [86, 65, 69, 49, 73, 83] /- VAE1IS -/,
  [86, 65, 65, 69, 49, 73, 83] /- VAAE1IS -/,
  [65, 83, 73, 68, 69, 49, 73, 83] /- ASIDE1IS -/,
  [86, 77, 65, 76, 76, 69, 49] /- VMALLE1 -/,
  [86, 65, 69, 49] /- VAE1 -/,
  [86, 65, 65, 69, 49] /- VAAE1 -/,
  [65, 83, 73, 68, 69, 49] /- ASIDE1 -/]
def systems : List Tx := [[69, 83, 82, 95, 69, 76, 49] /- ESR_EL1 -/,
  [70, 65, 82, 95, 69, 76, 49] /- FAR_EL1 -/,
  [69, 76, 82, 95, 69, 76, 49] /- ELR_EL1 -/]
def at! (l : List Tx) (i : Int) : Tx := l.getD i.toNat []
def num (n : Int) : Tx := Go.Lib.itoa n
def toT (imm : Int) : Tx := if imm < 0 then 46 :: num imm else 46 :: 43 :: num imm
def cellT (n imm : Int) : Tx := if imm = 0 then 91 :: reg n ++ [93] else 91 :: reg n ++ 44 :: 35 :: num imm ++ [93]
/-- the text of what is right -/
def printR (x : GrI.I) : Tx :=
  if x.op = 2 ∨ x.op = 3 ∨ x.op = 4 ∨ x.op = 5 then at! names x.op ++ 32 :: reg x.d ++ 44 :: cellT x.n x.imm
  else if x.op = 6 then (if 0 < x.kind then [77, 79, 86, 90, 32] ++ reg x.d ++ 44 :: 35 :: num x.imm ++ [44, 76, 83, 76, 32, 35] ++ num (16 * x.kind) else [77, 79, 86, 32] ++ reg x.d ++ 44 :: 35 :: num x.imm)
  else if x.op = 7 then at! names x.op ++ 32 :: reg x.d ++ 44 :: reg x.n ++ 44 :: 35 :: num x.imm
  else if x.op = 13 ∧ x.d = 31 then [67, 77, 80, 32] ++ reg x.n ++ 44 :: reg x.m
  else if 8 ≤ x.op ∧ x.op ≤ 13 then at! names x.op ++ 32 :: reg x.d ++ 44 :: reg x.n ++ 44 :: reg x.m
  else if x.op = 14 then at! names x.op ++ 32 :: toT x.imm
  else if x.op = 15 ∨ x.op = 16 then at! names x.op ++ 32 :: reg x.d ++ 44 :: toT x.imm
  else if x.op = 17 then at! conds x.kind ++ 32 :: toT x.imm
  else if x.op = 18 ∨ x.op = 19 then at! names x.op ++ 32 :: at! bars x.kind
  else if x.op = 21 then (if x.kind % 4 = 0 then at! names x.op ++ 32 :: at! flushes x.kind else at! names x.op ++ 32 :: at! flushes x.kind ++ 44 :: reg x.d)
  else if x.op = 23 then at! names x.op ++ 32 :: reg x.d ++ 44 :: at! systems x.kind
  else at! names x.op
def most : Nat := 1099511627776
def val (w : Tx) : Nat × Nat := parse (strL w)
def plainM (m w : Tx) : Tx := if (val (w.drop m.length)).2 ≠ 0 ∨ most < (val (w.drop m.length)).1 then w else (if m = [46, 45] ∧ (val (w.drop m.length)).1 = 0 then [46, 43] else m) ++ digs 10 (val (w.drop m.length)).1
def plainW (w : Tx) : Tx :=
  if Go.Lib.hasPrefix w [35] = true then plainM [35] w
  else if Go.Lib.hasPrefix w [46, 43] = true then plainM [46, 43] w
  else if Go.Lib.hasPrefix w [46, 45] = true then plainM [46, 45] w
  else w
def MOV : Tx := [77, 79, 86]
def MOVZ : Tx := [77, 79, 86, 90]
def CMP : Tx := [67, 77, 80]
def SUBS : Tx := [83, 85, 66, 83]
def XZR : Tx := [88, 90, 82]
def LSL : Tx := [76, 83, 76]
def usualL (l : List Tx) : List Tx :=
  if l.length = 8 ∧ l.getD 5 [] = [44] ∧ l.getD 6 [] = [35, 48] ∧ l.getD 7 [] = [93] then l.take 5 ++ [[93]]
  else if l.length = 7 ∧ (l.getD 0 [] = MOV ∨ l.getD 0 [] = MOVZ) ∧ l.getD 5 [] = LSL ∧ l.getD 6 [] = [35, 48] ∧ l.getD 4 [] = [44] then [MOV, l.getD 1 [], l.getD 2 [], l.getD 3 []]
  else if l.length = 7 ∧ l.getD 0 [] = MOV then l.set 0 MOVZ
  else if l.length = 4 ∧ l.getD 0 [] = MOVZ then l.set 0 MOV
  else if l.length = 6 ∧ l.getD 0 [] = SUBS ∧ l.getD 1 [] = XZR ∧ l.getD 2 [] = [44] then [CMP, l.getD 3 [], l.getD 4 [], l.getD 5 []]
  else l
def usual (l : List Tx) : List Tx := usualL (l.map plainW)
def cutset (c : UInt8) : Bool := c == 35 || c == 46 || c == 43
def numberIn (w : Tx) : Int :=
  if [46, 45].isPrefixOf w = true then -((min (val (w.drop 2)).1 most : Nat) : Int)
  else ((min (val (w.dropWhile cutset)).1 most : Nat) : Int)
def kindOf (l : List Tx) (w : Tx) : Int := ((l.idxOf? w).getD 0 : Nat)
def numberOf (w : Tx) : Option Nat := (List.range 32).find? fun n => reg n == w
def register (l : List Tx) (i : Nat) : Int := if i < l.length then ((numberOf (l.getD i [])).getD 0 : Nat) else 0
def lastW (l : List Tx) : Tx := l.getD (l.length - 1) []
def guess (op : Int) (l : List Tx) : GrI.I :=
  if op = 2 ∨ op = 3 ∨ op = 4 ∨ op = 5 then ⟨op, register l 1, register l 4, 0, if l.length = 8 then numberIn (l.getD 6 []) else 0, 0⟩
  else if op = 6 then ⟨op, register l 1, 0, 0, if 3 < l.length then numberIn (l.getD 3 []) else 0, if l.length = 7 then (numberIn (lastW l)).tdiv 16 else 0⟩
  else if op = 7 then ⟨op, register l 1, register l 3, 0, numberIn (lastW l), 0⟩
  else if 8 ≤ op ∧ op ≤ 13 then (if l.getD 0 [] = CMP then ⟨op, 31, register l 1, register l 3, 0, 0⟩ else ⟨op, register l 1, register l 3, register l 5, 0, 0⟩)
  else if op = 14 then ⟨op, 0, 0, 0, numberIn (lastW l), 0⟩
  else if op = 15 ∨ op = 16 then ⟨op, register l 1, 0, 0, numberIn (lastW l), 0⟩
  else if op = 17 then ⟨op, 0, 0, 0, numberIn (lastW l), kindOf conds (l.getD 0 [])⟩
  else if op = 18 ∨ op = 19 then ⟨op, 0, 0, 0, 0, kindOf bars (lastW l)⟩
  else if op = 21 then ⟨op, if 2 < l.length then register l 3 else 31, 0, 0, 0, kindOf flushes (l.getD (min 1 (l.length - 1)) [])⟩
  else if op = 23 then ⟨op, register l 1, 0, 0, 0, kindOf systems (lastW l)⟩
  else ⟨op, 0, 0, 0, 0, 0⟩
end GrA
