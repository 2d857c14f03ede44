/-
  Layer 4, the walks: numberIn, last.
  Layer 4, the walks: the tables that asm reads, as one fact.
-/
import Derived.Test.YtebpmngllljkaaaDoorVh
import Derived.Test.YtebpmngllljkaaaDoorVk
import Derived.Test.YtebpmngllljkaaaDoorVo
import Derived.Shelf.Strings.SlTrimAscii
import Derived.Test.YtebpmngllljkaaaDoorRy
import Derived.Test.YtebpmngllljkaaaDoorJc
set_option linter.unusedSimpArgs false
set_option linter.unusedVariables false
namespace Go.Proofs
def Tryd.laysTL_ren : Go.Shelf.Ren := ⟨fun | 161 => 65 | 231 => 73 | 227 => 74 | 233 => 75 | 235 => 76 | 228 => 83 | 197 => 84 | 151 => 85 | 260 => 91 | 152 => 92 | 137 => 95 | 119 => 96 | 224 => 97 | 225 => 98 | 217 => 99 | 266 => 100 | n => n, fun | 9 => 9 | 4 => 4 | 3 => 3 | 5 => 5 | 117 => 99 | 116 => 98 | 0 => 0 | 124 => 102 | 105 => 110 | 21 => 21 | 119 => 120 | 46 => 66 | 139 => 123 | 138 => 122 | n => n, fun | 3 => 7 | 4 => 8 | n => n⟩
theorem Tryd.laysTL : Go.Proofs.Lays.n161 Tryd.prog Tryd.laysTL_ren := {
  mixed := by kernel_rfl
  f119 := Tryd.func96.trans (congrArg some (by kernel_rfl))
  f137 := Tryd.func95.trans (congrArg some (by kernel_rfl))
  f151 := Tryd.func85.trans (congrArg some (by kernel_rfl))
  f152 := Tryd.func92.trans (congrArg some (by kernel_rfl))
  f161 := Tryd.func65.trans (congrArg some (by kernel_rfl))
  f197 := Tryd.func84.trans (congrArg some (by kernel_rfl))
  f217 := Tryd.func99.trans (congrArg some (by kernel_rfl))
  f224 := Tryd.func97.trans (congrArg some (by kernel_rfl))
  f225 := Tryd.func98.trans (congrArg some (by kernel_rfl))
  f227 := Tryd.func74.trans (congrArg some (by kernel_rfl))
  f228 := Tryd.func83.trans (congrArg some (by kernel_rfl))
  f231 := Tryd.func73.trans (congrArg some (by kernel_rfl))
  f233 := Tryd.func75.trans (congrArg some (by kernel_rfl))
  f235 := Tryd.func76.trans (congrArg some (by kernel_rfl))
  f260 := Tryd.func91.trans (congrArg some (by kernel_rfl))
  f266 := Tryd.func100.trans (congrArg some (by kernel_rfl))
  t0 := Tryd.underlying0
  a0 := Tryd.isAgg0
  z0 := Tryd.sizeOf0
  v0 := Tryd.zeroValue0
  t3 := Tryd.underlying3
  a3 := Tryd.isAgg3
  z3 := Tryd.sizeOf3
  v3 := Tryd.zeroValue3
  t4 := Tryd.underlying4
  a4 := Tryd.isAgg4
  z4 := Tryd.sizeOf4
  v4 := Tryd.zeroValue4
  t5 := Tryd.underlying5
  a5 := Tryd.isAgg5
  z5 := Tryd.sizeOf5
  v5 := Tryd.zeroValue5
  t9 := Tryd.underlying9
  a9 := Tryd.isAgg9
  z9 := Tryd.sizeOf9
  v9 := Tryd.zeroValue9
  t21 := Tryd.underlying21
  a21 := Tryd.isAgg21
  z21 := Tryd.sizeOf21
  v21 := Tryd.zeroValue21
  t46 := Tryd.underlying66
  a46 := Tryd.isAgg66
  z46 := Tryd.sizeOf66
  v46 := Tryd.zeroValue66
  t105 := Tryd.underlying110
  a105 := Tryd.isAgg110
  z105 := Tryd.sizeOf110
  v105 := Tryd.zeroValue110
  t116 := Tryd.underlying98
  a116 := Tryd.isAgg98
  z116 := Tryd.sizeOf98
  t117 := Tryd.underlying99
  a117 := Tryd.isAgg99
  z117 := Tryd.sizeOf99
  v117 := Tryd.zeroValue99
  t119 := Tryd.underlying120
  a119 := Tryd.isAgg120
  z119 := Tryd.sizeOf120
  t124 := Tryd.underlying102
  a124 := Tryd.isAgg102
  z124 := Tryd.sizeOf102
  v124 := Tryd.zeroValue102
  t138 := Tryd.underlying122
  a138 := Tryd.isAgg122
  z138 := Tryd.sizeOf122
  v138 := Tryd.zeroValue122
  t139 := Tryd.underlying123
  a139 := Tryd.isAgg123
  z139 := Tryd.sizeOf123
  v139 := Tryd.zeroValue123
  g3 := by kernel_rfl
  g4 := by kernel_rfl }
end Go.Proofs

namespace GrA
theorem trimL (l : Tx) : Go.Lib.trimLeftS l [35, 46, 43] = l.dropWhile cutset := by
  unfold Go.Lib.trimLeftS
  congr 1
  funext c
  unfold cutset
  simp only [List.contains, List.elem]
  cases c == 35 <;> cases c == 46 <;> cases c == 43 <;> rfl
theorem dropWhile_le (p : UInt8 → Bool) (l : Tx) : (l.dropWhile p).length ≤ l.length := by
  induction l with
  | nil => simp
  | cons c l ih =>
    rw [List.dropWhile_cons]
    split
    · simp; omega
    · simp
end GrA
namespace Go.Proofs.YtebpmngllljkaaaDoor
open Go.RowKit GrP GrA Go.Shelf

theorem trimLeft_any (l : Tx) (w : World) : Calls Tryd.prog 65 #[.string (strL l), .string ⟨#[35, 46, 43]⟩] w fun e w' => e = .returned (.string (strL (l.dropWhile cutset))) ∧ Below w.heap.size w w' := by
  have h := Any.strings_TrimLeft_laid Tryd.laysTL (by kernel_rfl) (strL l) ⟨#[35, 46, 43]⟩ w (by decide) (ascii_of_all (by decide))
  rw [← trimL]
  exact h

set_option maxRecDepth 100000 in
set_option maxHeartbeats 1600000 in
theorem numberIn_any (l : Tx) (w : World) (hl : l.length ≤ 4194304) : Calls Tryd.prog 49 #[.string (strL l)] w fun e w' => e = .returned (.int .i64 (numberIn l)) ∧ Below w.heap.size w w' := by
  have CU := Lib.hid (fun w => cut_any l [46, 45] w)
  cases c : Lib.hasPrefix l [46, 45] with
  | true =>
    have c0 := c
    rw [Lib.hasPrefix] at c0
    rw [c] at CU
    have tp : Lib.trimPrefix l [46, 45] = l.drop 2 := by rw [Lib.trimPrefix, if_pos c]; rfl
    rw [tp] at CU
    obtain ⟨r, hr⟩ : ∃ r, r = l.drop 2 := ⟨_, rfl⟩
    have PA := Lib.hid (fun w => parse_any (strL r) w (by rw [strL_size, hr, List.length_drop]; unfold maxLen; omega))
    have RS := Lib.hid (show numberIn l = -((min (GrA.val r).1 most : Nat) : Int) by rw [numberIn, if_pos c0, hr])
    rw [← hr] at CU
    unfold GrA.val at RS
    obtain ⟨v, hv⟩ : ∃ v, v = parse (strL r) := ⟨_, rfl⟩
    rw [← hv] at RS PA
    obtain ⟨a, b⟩ := v
    simp only at RS
    clear hl c c0 tp hr hv
    have a0 : (0 : Int) ≤ (a : Int) := by omega
    have R2 := Lib.hid (show numberIn l = -min (a : Int) 1099511627776 by rw [RS.out]; unfold most; omega)
    clear RS
    go_enter Tryd.func49, Tryd.ntmps49
    go_wp2_with fail
    refine (CU.out _).mono ?_
    rintro e w9 ⟨rfl, rfl⟩
    go_wp2_with fail
    refine (PA.out _).mono ?_
    rintro e w3 ⟨rfl, d3⟩
    have K3 := Lib.hid (drew_bel d3)
    clear d3
    go_wp2
    go_ret
    exact ⟨by rw [R2.out]; rfl, K3.out⟩
  | false =>
    have c0 := c
    rw [Lib.hasPrefix] at c0
    rw [c] at CU
    obtain ⟨t, ht⟩ : ∃ t, t = Lib.trimPrefix l [46, 45] := ⟨_, rfl⟩
    rw [← ht] at CU
    have TL := Lib.hid (fun w => trimLeft_any l w)
    obtain ⟨r, hr⟩ : ∃ r, r = l.dropWhile cutset := ⟨_, rfl⟩
    have PA := Lib.hid (fun w => parse_any (strL r) w (by rw [strL_size, hr]; have := dropWhile_le cutset l; unfold maxLen; omega))
    have RS := Lib.hid (show numberIn l = ((min (GrA.val r).1 most : Nat) : Int) by rw [numberIn, if_neg (by rw [c0]; simp), hr])
    rw [← hr] at TL
    unfold GrA.val at RS
    obtain ⟨v, hv⟩ : ∃ v, v = parse (strL r) := ⟨_, rfl⟩
    rw [← hv] at RS PA
    obtain ⟨a, b⟩ := v
    simp only at RS
    clear hl c c0 ht hr hv
    have a0 : (0 : Int) ≤ (a : Int) := by omega
    have R2 := Lib.hid (show numberIn l = min (a : Int) 1099511627776 by rw [RS.out]; unfold most; omega)
    clear RS
    go_enter Tryd.func49, Tryd.ntmps49
    go_wp2_with fail
    refine (CU.out _).mono ?_
    rintro e w9 ⟨rfl, rfl⟩
    go_wp2_with fail
    refine (TL.out _).mono ?_
    rintro e w2 ⟨rfl, b2⟩
    have K2 := Lib.hid b2
    clear b2
    go_wp2_with fail
    refine (PA.out _).mono ?_
    rintro e w3 ⟨rfl, d3⟩
    have K3 := Lib.hid (K2.out.trans ((drew_bel d3).mono K2.out.size))
    clear d3
    go_wp2
    go_ret
    exact ⟨by rw [R2.out]; rfl, K3.out⟩

/-- a slice of texts, each short -/
def Short (L : List Tx) : Prop := ∀ t ∈ L, t.length ≤ 4194304

set_option maxRecDepth 100000 in
set_option maxHeartbeats 1600000 in
theorem last_any (L : List Tx) (v : Value) (w : World) (h : SlT w v L) (hs : Short L) (hn : 0 < L.length) : Calls Tryd.prog 50 #[v] w fun e w' => e = .returned (.int .i64 (numberIn (lastW L))) ∧ Below w.heap.size w w' := by
  obtain ⟨a, cap, rfl, hl, hc⟩ := h
  obtain ⟨n, hm⟩ : ∃ n, n + 1 = L.length := ⟨L.length - 1, by omega⟩
  have hci := hc n (by omega)
  have E : lastW L = L[n]'(by omega) := by
    have e1 : L.length - 1 = n := by omega
    rw [lastW, e1, List.getD_eq_getElem?_getD, List.getElem?_eq_getElem (by omega)]; rfl
  obtain ⟨t, ht⟩ : ∃ t, t = L[n]'(by omega) := ⟨_, rfl⟩
  have NI := Lib.hid (numberIn_any t w (hs t (by rw [ht]; exact List.getElem_mem _)))
  rw [← ht] at hci E
  rw [E]
  obtain ⟨m, hm2⟩ : ∃ m, m = L.length := ⟨_, rfl⟩
  rw [← hm2]
  obtain rfl : m = n + 1 := by omega
  have hci : w.cell? (a.add n) = some (.string (strL t)) := hci
  have n0 : (0 : Int) ≤ (n : Int) := by omega
  have n1 : (n : Int) ≤ 4194304 := by omega
  have n2 : ((n + 1 : Nat) : Int) = (n : Int) + 1 := by omega
  have n3 : (n : Int) < (n : Int) + 1 := by omega
  have n4 : (n : Int) + 1 - 1 = (n : Int) := by omega
  clear hc hl hs hn hm hm2 E ht
  go_enter Tryd.func50, Tryd.ntmps50
  go_wp2_with fail
  refine NI.out.mono ?_
  rintro e w2 ⟨rfl, hb⟩
  have K2 := Lib.hid hb
  clear hb
  go_wp2
  go_ret
  exact ⟨rfl, K2.out⟩
end Go.Proofs.YtebpmngllljkaaaDoor

namespace Go.Proofs.YtebpmngllljkaaaDoor
open Go.RowKit GrP GrA

/-- asm's tables -/
structure Tab (w : World) : Prop where
  tb : TB w
  sh : ShAt w
  nm : TxAt 0 names w
  cd : TxAt 1 conds w
  br : TxAt 2 bars w
  fl : TxAt 3 flushes w
  sy : TxAt 4 systems w
theorem ShAt.below' {w w' : World} (h : ShAt w) (k : Below w.heap.size w w') : ShAt w' := h.below k
theorem Tab.below {w w' : World} (h : Tab w) (k : Below w.heap.size w w') : Tab w' :=
  ⟨h.tb.below k, h.sh.below k, h.nm.below k, h.cd.below k, h.br.below k, h.fl.below k, h.sy.below k⟩
end Go.Proofs.YtebpmngllljkaaaDoor
