/-
  Layer 2, the walks: the page's texts of words and numbers.
  Layer 2: the shelf's contracts of strconv and math/bits, laid at this seat; formatBits at base 16.
  Layer 2, the walks: internal/strconv.formatBits at base 16.
  Layer 2, the walks: internal/strconv.FormatUint at bases 16 and 10, strconv's, Itoa; the program's Hex, Dec, Int.
-/
import Derived.Test.YtebpmngllljkaaaDoorHa
import Derived.Test.YtebpmngllljkaaaDoorBx
import Derived.Laws.Strings
import Derived.Shelf.LaysM
import Derived.Shelf.Strconv.Itoa3
import Derived.Shelf.Spec.TrailingZeros
import Derived.Lib.AppendIntMem
import Derived.Laws.IdiomStrings
set_option linter.unusedSimpArgs false
set_option linter.unusedVariables false
namespace Go.Proofs.YtebpmngllljkaaaDoor
open Go.RowKit GrP

theorem sixteen : ∀ r : Fin 16, ((⟨#[48, 49, 50, 51, 52, 53, 54, 55, 56, 57, 97, 98, 99, 100, 101, 102]⟩ : ByteArray).extract r.val (r.val + 1)) = strL [dgc r.val] := by decide +kernel
theorem strL_app (l m : List UInt8) : strL l ++ strL m = strL (l ++ m) := by
  unfold strL
  apply ByteArray.ext
  simp [ByteArray.append_eq]
theorem xor_all (m : Nat) (h : m < 18446744073709551616) : 18446744073709551615 ^^^ m = 18446744073709551615 - m := by
  apply Nat.eq_of_testBit_eq
  intro i
  rw [Nat.testBit_xor, show (18446744073709551615 : Nat) = 2 ^ 64 - 1 by decide, Nat.testBit_two_pow_sub_one, show 2 ^ 64 - 1 - m = 2 ^ 64 - (m + 1) by omega, Nat.testBit_two_pow_sub_succ (by simpa using h)]
  by_cases c : i < 64
  · simp [c]
  · have : m.testBit i = false := Nat.testBit_lt_two_pow (Nat.lt_of_lt_of_le h (show 18446744073709551616 ≤ 2 ^ i from Nat.pow_le_pow_right (by decide : 2 > 0) (show 64 ≤ i by omega)))
    simp [c, this]
set_option maxRecDepth 100000 in
set_option maxHeartbeats 3200000 in
theorem rtext_any (b : Nat) (h2 : 2 ≤ b) (h16 : b ≤ 16) (u : Nat) : ∀ (w : World), u < 18446744073709551616 →
    Calls Tryd.prog 46 #[.int .u64 (u : Int), .int .u64 (b : Int)] w fun e w' => e = .returned (.string (strL (digs b u))) ∧ Below w.heap.size w w' := by
  induction u using Nat.strongRecOn with
  | _ u ih =>
    intro w hu
    have hr : u % b < b := Nat.mod_lt _ (by omega)
    obtain ⟨r, hre⟩ : ∃ r, r = u % b := ⟨_, rfl⟩
    rw [← hre] at hr
    have hsl : ∀ w, (Instr.slice 9 (.string ⟨#[48, 49, 50, 51, 52, 53, 54, 55, 56, 57, 97, 98, 99, 100, 101, 102]⟩) (some (.int .u64 (r : Int))) (some (.int .u64 ((r : Int) + 1))) none).run Tryd.prog w = .ok (.string (strL [dgc r])) w := fun w => by
      rw [run_slice_string w 9 _ .u64 .u64 _ _ Tryd.underlying9 (by omega) (by omega) (by show ((r : Int) + 1) ≤ 16; omega), show ((r : Int)).toNat = r by omega, show ((r : Int) + 1).toNat = r + 1 by omega]
      rw [sixteen ⟨r, by omega⟩]
    have tm : (u : Int).tmod (b : Int) = (r : Int) := by rw [Int.tmod_eq_emod_of_nonneg (by omega), hre]; simp
    have td : (u : Int).tdiv (b : Int) = ((u / b : Nat) : Int) := by rw [Int.tdiv_eq_ediv_of_nonneg (by omega)]; simp
    have r0 : (0 : Int) ≤ (r : Int) := by omega
    have r1 : (r : Int) < 16 := by omega
    have b0 : ¬ (b : Int) = 0 := by omega
    have b1 : ((b : Int) == 0) = false := by simp; omega
    have w1 : IntKind.u64.wrap ((r : Int) + 1) = (r : Int) + 1 := by rw [IntKind.wrap_u64]; omega
    have w2 : IntKind.u64.wrap (r : Int) = (r : Int) := by rw [IntKind.wrap_u64]; omega
    by_cases c : u < b
    · have D := Lib.hid (show digs b u = [dgc r] by rw [digs_small c, hre, Nat.mod_eq_of_lt c])
      have cb : (u : Int) < (b : Int) := by omega
      clear hre ih
      go_enter Tryd.func46, Tryd.ntmps46
      go_wp2_with fail
      refine wp_region_wb (by kernel_rfl) (by kernel_rfl) ?_
      repeat (go_big_quiet_step (fail))
      refine wpQuiet_nil ?_
      rintro _ ⟨z, rfl⟩
      have KK := Lib.hid z.bel
      clear hsl tm td w1 w2 b0 b1
      go_wp2
      go_ret
      exact ⟨(by rw [D.out]; rfl), KK.out⟩
    · have D := Lib.hid (show digs b u = digs b (u / b) ++ [dgc r] by rw [digs_big c h2, hre])
      have cb : ¬ (u : Int) < (b : Int) := by omega
      have IH := Lib.hid (fun w => ih (u / b) (Nat.div_lt_self (by omega) (by omega)) w (Nat.lt_of_le_of_lt (Nat.div_le_self _ _) hu))
      obtain ⟨q, hq⟩ : ∃ q, q = u / b := ⟨_, rfl⟩
      rw [← hq] at IH D td
      have q0 : (0 : Int) ≤ (q : Int) := by omega
      have q1 : (q : Int) < 18446744073709551616 := by
        have := Nat.div_le_self u b
        rw [← hq] at this
        omega
      have w3 : IntKind.u64.wrap (q : Int) = (q : Int) := by rw [IntKind.wrap_u64]; omega
      clear hre ih hq
      go_enter Tryd.func46, Tryd.ntmps46
      go_wp2_with fail
      refine wp_region_wb (by kernel_rfl) (by kernel_rfl) ?_
      repeat (go_big_quiet_step (fail))
      refine wpQuiet_nil ?_
      rintro _ ⟨z, rfl⟩
      have KK := Lib.hid z.bel
      clear hsl tm w1 w2
      go_wp2_with fail
      refine (IH.out _).mono ?_
      rintro e w2 ⟨rfl, hb⟩
      have K2 := Lib.hid (KK.out.trans (hb.mono KK.out.size))
      clear hb td w3 b0 b1
      have SA := Lib.hid (strL_app (digs b q) [dgc r])
      have NS : ¬ 9223372036854775807 < (strL (digs b q)).size + (strL [dgc r]).size := by
        have := digs_len64 h2 q (by omega)
        have e : (strL [dgc r]).size = 1 := by rw [strL_size]; rfl
        omega
      go_wp2
      go_ret
      first
        | exact ⟨(by rw [D.out, ← SA.out]; rfl), K2.out⟩
        | exact ⟨(by rw [D.out]; rfl), K2.out⟩

theorem neg_eq (n : Int) (u : Nat) (h0 : -9223372036854775808 ≤ n) (c : n < 0) (hu : u = n.natAbs) : IntKind.u64.wrap (bits .xor .u64 IntKind.u64.max (IntKind.u64.wrap n) + 1) = (u : Int) := by
  obtain ⟨m, hm⟩ : ∃ m : Nat, (m : Int) = n + 18446744073709551616 := ⟨(n + 18446744073709551616).toNat, by omega⟩
  have h1 : IntKind.u64.wrap n = (m : Int) := by rw [IntKind.wrap_u64]; omega
  have h2 : m < 18446744073709551616 := by omega
  have e : bits .xor .u64 ((18446744073709551615 : Nat) : Int) (m : Int) = ((18446744073709551615 - m : Nat) : Int) := by
    rw [u64_xor_nat 18446744073709551615 m (by decide) h2, xor_all m h2]
  have mx : IntKind.u64.max = ((18446744073709551615 : Nat) : Int) := by decide
  rw [h1, mx, e, IntKind.wrap_u64]
  omega

def intS (n : Int) : ByteArray := strL (Lib.itoa n)

set_option maxRecDepth 100000 in
set_option maxHeartbeats 1600000 in
theorem rint_any (n : Int) (w : World) (h0 : -9223372036854775808 ≤ n) (h1 : n ≤ 9223372036854775807) :
    Calls Tryd.prog 26 #[.int .i64 n] w fun e w' => e = .returned (.string (intS n)) ∧ Below w.heap.size w w' := by
  by_cases c : n < 0
  · obtain ⟨u, hu⟩ : ∃ u, u = n.natAbs := ⟨_, rfl⟩
    have RT := Lib.hid (fun w => rtext_any 10 (by omega) (by omega) u w (by omega))
    have SA := Lib.hid (show strL [45] ++ strL (digs 10 u) = intS n by
      rw [strL_app, intS, Lib.itoa, if_pos c, digs_dec, hu]; rfl)
    have XE := Lib.hid (neg_eq n u h0 c hu)
    have cb : decide (n < 0) = true := by simpa using c
    have NS : ¬ 9223372036854775807 < 1 + (strL (digs 10 u)).size := by have := digs_len64 (by omega : 2 ≤ 10) u (by omega); omega
    clear hu h0 h1
    go_enter Tryd.func26, Tryd.ntmps26
    go_wp2_with fail
    rw [XE.out]
    refine (RT.out _).mono ?_
    rintro e w2 ⟨rfl, hb⟩
    have K2 := Lib.hid hb
    clear hb XE
    go_wp2
    go_ret
    first
      | exact ⟨(by rw [← SA.out]; rfl), K2.out⟩
      | exact ⟨rfl, K2.out⟩
  · obtain ⟨u, rfl⟩ := Int.eq_ofNat_of_zero_le (show 0 ≤ n by omega)
    have RT := Lib.hid (rtext_any 10 (by omega) (by omega) u w (by omega))
    have SA := Lib.hid (show strL (digs 10 u) = intS (u : Int) by
      rw [intS, Lib.itoa, if_neg c, digs_dec]; rfl)
    go_enter Tryd.func26, Tryd.ntmps26
    go_wp2_with fail
    refine RT.out.mono ?_
    rintro e w2 ⟨rfl, hb⟩
    have K2 := Lib.hid hb
    clear hb
    go_wp2
    go_ret
    exact ⟨(by rw [← SA.out]; rfl), K2.out⟩
end Go.Proofs.YtebpmngllljkaaaDoor

namespace Go.Proofs
def Tryd.laysA_ren : Go.Shelf.Ren := ⟨fun | 171 => 45 | 243 => 61 | 246 => 67 | 283 => 77 | 284 => 78 | 285 => 79 | 286 => 80 | 129 => 87 | 317 => 86 | 318 => 88 | 319 => 89 | 320 => 90 | 337 => 93 | 338 => 94 | n => n, fun | 3 => 3 | 9 => 9 | 2 => 2 | 4 => 4 | 171 => 103 | 0 => 0 | 53 => 67 | 37 => 106 | 5 => 5 | 173 => 107 | 212 => 114 | 51 => 41 | 20 => 20 | 213 => 115 | 46 => 66 | 232 => 127 | 233 => 128 | n => n, fun | 17 => 6 | 18 => 9 | 19 => 10 | n => n⟩
theorem Tryd.laysA : Go.Proofs.LaysM.n171 Tryd.prog Tryd.laysA_ren := {
  mixed := by kernel_rfl
  f129 := Tryd.func87.trans (congrArg some (by kernel_rfl))
  f171 := Tryd.func45.trans (congrArg some (by kernel_rfl))
  f243 := Tryd.func61.trans (congrArg some (by kernel_rfl))
  f246 := Tryd.func67.trans (congrArg some (by kernel_rfl))
  f283 := Tryd.func77.trans (congrArg some (by kernel_rfl))
  f284 := Tryd.func78.trans (congrArg some (by kernel_rfl))
  f285 := Tryd.func79.trans (congrArg some (by kernel_rfl))
  f286 := Tryd.func80.trans (congrArg some (by kernel_rfl))
  f317 := Tryd.func86.trans (congrArg some (by kernel_rfl))
  f318 := Tryd.func88.trans (congrArg some (by kernel_rfl))
  f319 := Tryd.func89.trans (congrArg some (by kernel_rfl))
  f320 := Tryd.func90.trans (congrArg some (by kernel_rfl))
  f337 := Tryd.func93.trans (congrArg some (by kernel_rfl))
  f338 := Tryd.func94.trans (congrArg some (by kernel_rfl))
  t0 := Tryd.underlying0
  a0 := Tryd.isAgg0
  z0 := Tryd.sizeOf0
  v0 := Tryd.zeroValue0
  t2 := Tryd.underlying2
  a2 := Tryd.isAgg2
  z2 := Tryd.sizeOf2
  v2 := Tryd.zeroValue2
  t3 := Tryd.underlying3
  a3 := Tryd.isAgg3
  z3 := Tryd.sizeOf3
  v3 := Tryd.zeroValue3
  t4 := Tryd.underlying4
  a4 := Tryd.isAgg4
  z4 := Tryd.sizeOf4
  v4 := Tryd.zeroValue4
  t5 := Tryd.underlying5
  a5 := Tryd.isAgg5
  z5 := Tryd.sizeOf5
  v5 := Tryd.zeroValue5
  t9 := Tryd.underlying9
  a9 := Tryd.isAgg9
  z9 := Tryd.sizeOf9
  v9 := Tryd.zeroValue9
  t20 := Tryd.underlying20
  a20 := Tryd.isAgg20
  z20 := Tryd.sizeOf20
  v20 := Tryd.zeroValue20
  t37 := Tryd.underlying106
  a37 := Tryd.isAgg106
  z37 := Tryd.sizeOf106
  v37 := Tryd.zeroValue106
  t46 := Tryd.underlying66
  a46 := Tryd.isAgg66
  z46 := Tryd.sizeOf66
  v46 := Tryd.zeroValue66
  t51 := Tryd.underlying41
  a51 := Tryd.isAgg41
  z51 := Tryd.sizeOf41
  v51 := Tryd.zeroValue41
  t53 := Tryd.underlying67
  a53 := Tryd.isAgg67
  z53 := Tryd.sizeOf67
  v53 := Tryd.zeroValue67
  t171 := Tryd.underlying103
  a171 := Tryd.isAgg103
  z171 := Tryd.sizeOf103
  v171 := Tryd.zeroValue103
  t173 := Tryd.underlying107
  a173 := Tryd.isAgg107
  z173 := Tryd.sizeOf107
  v173 := Tryd.zeroValue107
  t212 := Tryd.underlying114
  a212 := Tryd.isAgg114
  z212 := Tryd.sizeOf114
  v212 := Tryd.zeroValue114
  t213 := Tryd.underlying115
  a213 := Tryd.isAgg115
  z213 := Tryd.sizeOf115
  t232 := Tryd.underlying127
  a232 := Tryd.isAgg127
  z232 := Tryd.sizeOf127
  v232 := Tryd.zeroValue127
  t233 := Tryd.underlying128
  a233 := Tryd.isAgg128
  z233 := Tryd.sizeOf128
  v233 := Tryd.zeroValue128
  g17 := by kernel_rfl
  g18 := by kernel_rfl
  g19 := by kernel_rfl
  i0 := by kernel_rfl
  i2 := by kernel_rfl
  i3 := by kernel_rfl
  i4 := by kernel_rfl
  i5 := by kernel_rfl
  i9 := by kernel_rfl
  i20 := by kernel_rfl
  i37 := by kernel_rfl
  i46 := by kernel_rfl
  i51 := by kernel_rfl
  i53 := by kernel_rfl
  i171 := by kernel_rfl
  i173 := by kernel_rfl
  i212 := by kernel_rfl
  i232 := by kernel_rfl
  i233 := by kernel_rfl
  m17 := by kernel_rfl
  m18 := by kernel_rfl
  m19 := by kernel_rfl }
def Tryd.laysT_ren : Go.Shelf.Ren := ⟨fun | 27 => 90 | 28 => 93 | 29 => 94 | n => n, fun | 25 => 66 | 3 => 3 | 27 => 41 | 22 => 67 | 4 => 4 | 53 => 127 | 0 => 0 | 5 => 5 | 54 => 128 | n => n, fun | 0 => 9 | 1 => 10 | n => n⟩
theorem Tryd.laysT : Go.Proofs.Lays7.n27 Tryd.prog Tryd.laysT_ren := {
  mixed := by kernel_rfl
  f27 := Tryd.func90.trans (congrArg some (by kernel_rfl))
  f28 := Tryd.func93.trans (congrArg some (by kernel_rfl))
  f29 := Tryd.func94.trans (congrArg some (by kernel_rfl))
  t0 := Tryd.underlying0
  a0 := Tryd.isAgg0
  z0 := Tryd.sizeOf0
  v0 := Tryd.zeroValue0
  i0 := by kernel_rfl
  t3 := Tryd.underlying3
  a3 := Tryd.isAgg3
  z3 := Tryd.sizeOf3
  v3 := Tryd.zeroValue3
  i3 := by kernel_rfl
  t4 := Tryd.underlying4
  a4 := Tryd.isAgg4
  z4 := Tryd.sizeOf4
  v4 := Tryd.zeroValue4
  i4 := by kernel_rfl
  t5 := Tryd.underlying5
  a5 := Tryd.isAgg5
  z5 := Tryd.sizeOf5
  v5 := Tryd.zeroValue5
  i5 := by kernel_rfl
  t22 := Tryd.underlying67
  a22 := Tryd.isAgg67
  z22 := Tryd.sizeOf67
  v22 := Tryd.zeroValue67
  i22 := by kernel_rfl
  t25 := Tryd.underlying66
  a25 := Tryd.isAgg66
  z25 := Tryd.sizeOf66
  v25 := Tryd.zeroValue66
  i25 := by kernel_rfl
  t27 := Tryd.underlying41
  a27 := Tryd.isAgg41
  z27 := Tryd.sizeOf41
  v27 := Tryd.zeroValue41
  i27 := by kernel_rfl
  t53 := Tryd.underlying127
  a53 := Tryd.isAgg127
  z53 := Tryd.sizeOf127
  v53 := Tryd.zeroValue127
  i53 := by kernel_rfl
  t54 := Tryd.underlying128
  a54 := Tryd.isAgg128
  z54 := Tryd.sizeOf128
  g0 := by kernel_rfl
  g1 := by kernel_rfl }
end Go.Proofs

namespace Go.Proofs.YtebpmngllljkaaaDoor
open Go.RowKit GrP Go.Lib Go.Shelf

/-- the library's tables, as their initialisers lay them -/
structure TB (w : World) : Prop where
  pow : Lib.TabIs Tryd.prog w "internal/strconv.uint64pow10" .u64 Lib.pow10Tab
  de : TabAt 10 Lib.deBruijn64tab w
theorem TB.below {w w' : World} (h : TB w) (k : Below w.heap.size w w') : TB w' := by
  constructor
  · have hp := h.pow
    unfold Lib.TabIs World.var? at *
    rw [show Tryd.prog.globalNamed "internal/strconv.uint64pow10" = some 6 by kernel_rfl] at *
    dsimp only [Option.bind_eq_bind, Option.bind_some] at hp ⊢
    have hlt : 6 < w.heap.size := by
      by_cases c : 6 < w.heap.size
      · exact c
      · rw [Array.getElem?_eq_none (by omega)] at hp
        cases hp
    rw [k.block _ hlt]
    exact hp
  · intro j hj
    have hc := h.de j hj
    rw [k.cell (World.block_lt_of_cell? w _ hc)]
    exact hc

theorem ipot_any (w : World) : Calls Tryd.prog 89 #[.int .i64 16] w fun e w' => e = .returned (.bool true) ∧ w = w' := by
  go_enter Tryd.func89, Tryd.ntmps89
  go_wp2
  go_ret
  exact ⟨rfl, rfl⟩

theorem tz_any (w : World) (h : TB w) : Calls Tryd.prog 90 #[.int .u64 16] w fun e w' => e = .returned (.int .i64 4) ∧ w = w' :=
  (Any7.bits_TrailingZeros Tryd.laysT 16 (by omega) w (fun _ => h.de)).mono fun _ _ h => ⟨h.1, h.2.symm⟩
end Go.Proofs.YtebpmngllljkaaaDoor

namespace GrP
open Go
def g8 (b : UInt8) : Value := .int .u8 (b.toNat : Int)
theorem dig_at : ∀ d : Fin 16, (⟨#[48, 49, 50, 51, 52, 53, 54, 55, 56, 57, 97, 98, 99, 100, 101, 102, 103, 104, 105, 106, 107, 108, 109, 110, 111, 112, 113, 114, 115, 116, 117, 118, 119, 120, 121, 122]⟩ : ByteArray)[d.val]'(by have := d.isLt; show d.val < 36; omega) = dgc d.val := by decide +kernel
theorem drop_set (L : List UInt8) (i : Nat) (v : UInt8) (h : i < L.length) : (L.set i v).drop i = v :: L.drop (i + 1) := by
  apply List.ext_getElem?
  intro j
  cases j with
  | zero => simp [h]
  | succ j =>
    simp only [List.getElem?_drop, List.getElem?_cons_succ]
    rw [List.getElem?_set_ne (by omega)]
    congr 1; omega
theorem and15 (u : Nat) (h : u < 18446744073709551616) : bits .and .u64 (u : Int) 15 = ((u % 16 : Nat) : Int) := by
  have := u64_and_nat u 15 h (by decide)
  rw [show ((15 : Nat) : Int) = 15 from rfl] at this
  rw [this]
  congr 1
  exact Nat.and_two_pow_sub_one_eq_mod u 4
end GrP
namespace Go.Proofs.YtebpmngllljkaaaDoor
open Go.RowKit GrP

theorem idx_dig (d : Nat) (h : d < 16) (w : World) : (Instr.index 9 (.string ⟨#[48, 49, 50, 51, 52, 53, 54, 55, 56, 57, 97, 98, 99, 100, 101, 102, 103, 104, 105, 106, 107, 108, 109, 110, 111, 112, 113, 114, 115, 116, 117, 118, 119, 120, 121, 122]⟩) (.int .u64 (d : Int))).run Tryd.prog w = .ok (.int .u8 ((dgc d).toNat : Int)) w := by
  have e := dig_at ⟨d, h⟩
  simp only at e
  rw [run_index_string w 9 _ .u64 _ Tryd.underlying9, dif_pos ⟨by omega, by show (d : Int) < 36; omega⟩]
  have : ((d : Int)).toNat = d := by omega
  simp only [this, e]

theorem RowG.put {V : World} {B : Nat} {L : List UInt8} {T : TypeId} (h : Row V B (L.map g8) T) (i : Nat) (b : UInt8) : Row (V.setCell ⟨B, i, none⟩ (.int .u8 (b.toNat : Int))) B ((L.set i b).map g8) T := by
  have := h.set i (.int .u8 (b.toNat : Int))
  rw [show ((L.set i b).map g8) = (L.map g8).set i (.int .u8 (b.toNat : Int)) by rw [List.map_set]; rfl]
  exact this

def Z65 : Array Value := ((List.replicate 65 (0 : UInt8)).map g8).toArray
theorem zero65 (w : World) : (zeroValue 115).run Tryd.prog w = .ok (.agg Z65) w := by kernel_rfl
theorem row65 (w : World) : Row (w.alloc (.cells Z65 115)) w.heap.size ((List.replicate 65 (0 : UInt8)).map g8) 115 := Row.new w _ _
theorem conv_g {V : World} {B : Nat} {L : List UInt8} (h : Row V B (L.map g8) 115) (i n : Nat) (hn : n + i = L.length) (cap : Nat) :
    (convert 106 9 (.slice (some ⟨B, i, none⟩) n cap)).run Tryd.prog V = .ok (.string (strL (L.drop i))) V := by
  have e : n = (L.drop i).length := by rw [List.length_drop]; omega
  have := run_convert_bytes_back (P := Tryd.prog) V 106 9 5 ⟨B, i, none⟩ cap (L.drop i) Tryd.underlying106 Tryd.underlying5 Tryd.underlying9 (fun j hj => by
    rw [Lib.add_plain]
    rw [h.cell (i + j), List.getElem?_map, List.getElem_drop]
    have : i + j < L.length := by rw [List.length_drop] at hj; omega
    rw [List.getElem?_eq_getElem this]
    rfl)
  rw [← e] at this
  exact this

set_option maxRecDepth 100000 in
set_option maxHeartbeats 6400000 in
theorem fbits_any (u : Nat) (w : World) (hu : u < 18446744073709551616) (ht : TB w) :
    Calls Tryd.prog 80 #[.slice none 0 0, .int .u64 (u : Int), .int .i64 16, .bool false, .bool false] w fun e w' => e = .returned (.tuple #[.slice none 0 0, .string (strL (digs 16 u))]) ∧ Below w.heap.size w w' := by
  have B0 := Lib.hid (show Below w.heap.size w (w.alloc (.cells Z65 115)) from KB.alloc (Below.refl _ _) _)
  have TH := Lib.hid (ht.below B0.out)
  have HU := Lib.hid hu
  have u0 : (0 : Int) ≤ (u : Int) := by omega
  have u1 : (u : Int) < 18446744073709551616 := by omega
  have R0 := Lib.hid (row65 w)
  have z65 := zero65
  obtain ⟨B, hB⟩ : ∃ B, B = w.heap.size := ⟨_, rfl⟩
  clear hu ht
  go_enter Tryd.func80, Tryd.ntmps80
  go_wp2_with fail
  refine (ipot_any _).mono ?_
  rintro e w1 ⟨rfl, rfl⟩
  go_wp2_with fail
  refine (tz_any _ TH.out).mono ?_
  rintro e w1 ⟨rfl, rfl⟩
  clear z65
  go_wp2_with fail
  go_loopw [1, 13] (fun uv iv wr => ∃ (i uk : Nat) (L : List UInt8), iv = .int .i64 ((i : Int) + 1) ∧ uv = .int .u64 (uk : Int) ∧ i ≤ 64 ∧ uk < 18446744073709551616 ∧ L.length = 65 ∧ digs 16 u = digs 16 uk ++ L.drop (i + 1) ∧ Row wr w.heap.size (L.map g8) 115 ∧ Below w.heap.size w wr) (fun _ iv _ => (intOf iv).toNat)
  case atStart => exact ⟨64, u, List.replicate 65 0, rfl, rfl, by omega, HU.out, by simp, by simp, R0.out, B0.out⟩
  case round =>
    obtain ⟨i, uk, L, rfl, rfl, hi, hk, hL, hd, hrow, hbel⟩ := hrel
    clear B0 TH R0
    have hf := hrow.free i
    obtain ⟨x, hc⟩ : ∃ x : Int, wr.cell? ⟨w.heap.size, i, none⟩ = some (.int .u8 x) := ⟨_, by rw [hrow.cell i, List.getElem?_map, List.getElem?_eq_getElem (show i < L.length by omega)]; rfl⟩
    obtain ⟨r, hr⟩ : ∃ r, r = uk % 16 := ⟨_, rfl⟩
    obtain ⟨b, hb⟩ : ∃ b, b = dgc r := ⟨_, rfl⟩
    have hbx : b.toNat < 256 := by have := b.toNat_lt; omega
    have i0 : (0 : Int) ≤ (i : Int) := by omega
    have i1 : (i : Int) ≤ 64 := by omega
    have k0 : (0 : Int) ≤ (uk : Int) := by omega
    have k1 : (uk : Int) < 18446744073709551616 := by omega
    have ROW := Lib.hid (RowG.put hrow i b)
    have KB2 := Lib.hid (KB.put hbel (Nat.le_refl w.heap.size) i (.int .u8 (b.toNat : Int)))
    have HL := Lib.hid hL
    have HD := Lib.hid hd
    have hlt : r < 16 := by omega
    have hix := fun w => idx_dig r hlt w
    rw [← hb] at hix
    by_cases c : uk < 16
    · have hru : r = uk := by omega
      rw [hru] at hix
      have c2 : (uk : Int) < 16 := by omega
      have c3 : ¬ (16 : Int) ≤ (uk : Int) := by omega
      have d3 : decide ((16 : Int) ≤ (uk : Int)) = false := by simp; omega
      have D := Lib.hid (show digs 16 u = (L.set i b).drop i by rw [hd, digs_small c, drop_set L i b (by omega), hb, hru]; rfl)
      obtain ⟨n, hn⟩ : ∃ n, n = 65 - i := ⟨_, rfl⟩
      have hcv := conv_g ROW.out i n (by rw [List.length_set]; omega) n
      have hsl : ∀ W, (Instr.sliceAt 115 (.pointer (some ⟨w.heap.size, 0, none⟩)) (some (.int .i64 (i : Int))) none none).run Tryd.prog W = .ok (.slice (some ⟨w.heap.size, i, none⟩) n n) W := fun W => by
        have hal : Tryd.prog.arrayLen 115 = 65 := by kernel_rfl
        rw [run_sliceAt_array_l W 115 ⟨w.heap.size, 0, none⟩ (by kernel_rfl) .i64 (i : Int) (by omega) (by rw [hal]; omega), hal]
        have e : (Go.sizeOf (Tryd.prog.elem 115)).run Tryd.prog W = .ok 1 W := by kernel_rfl
        rw [e]
        simp only [Result.andThen, slicedAt, Int.toNat_natCast, Lib.add_plain, Nat.mul_one, Nat.zero_add, ← hn]
        rw [if_neg (by omega)]
      obtain ⟨DD, hDD⟩ : ∃ DD, DD = (L.set i b).drop i := ⟨_, rfl⟩
      rw [← hDD] at hcv D
      clear hrow hbel hd hL hb hr hru hlt hk hi c hn hDD hB HU
      go_wp2
      refine bodyPost_ret (v := .tuple #[.slice none 0 0, .string (strL DD)]) (by simp [results, Tryd.results80, go_sem, *]) rfl ⟨by rw [D.out], KB2.out⟩
    · have hand := and15 uk hk
      rw [← hr] at hand
      have c2 : ¬ (uk : Int) < 16 := by omega
      have c3 : (16 : Int) ≤ (uk : Int) := by omega
      have len := digs_len (b := 16) (by omega) 15 u (by have := HU.out; omega)
      have D := Lib.hid (show digs 16 u = digs 16 (uk / 16) ++ (L.set i b).drop i by rw [hd, digs_big c (by omega), drop_set L i b (by omega), hb, hr]; simp)
      have i2 : 1 ≤ i := by
        rw [hd, List.length_append, List.length_drop, digs_big c (by omega), List.length_append] at len
        simp at len
        omega
      have HK := Lib.hid hk
      clear hrow hbel hd hL hb hr hlt hk len hB
      go_wp2
      go_roundw
      case rel => exact ⟨i - 1, uk / 16, L.set i b, by go_num, by go_num, by omega, by have := HK.out; omega, by rw [List.length_set]; exact HL.out, by rw [D.out, show i - 1 + 1 = i by omega], ROW.out, KB2.out⟩
      case measure => simp [intOf]
end Go.Proofs.YtebpmngllljkaaaDoor

namespace Go.Proofs.YtebpmngllljkaaaDoor
open Go.RowKit GrP Go.Shelf Go.Sort

theorem strL_dec (u : Nat) : (⟨(Lib.decDigits u).toArray⟩ : ByteArray) = strL (digs 10 u) := by rw [digs_dec]; rfl
theorem small_any (u : Nat) (h : u < 100) (w : World) : Calls Tryd.prog 77 #[.int .i64 (u : Int)] w fun e w' => e = .returned (.string (strL (digs 10 u))) ∧ w = w' :=
  (Any.internal_strconv_small { Tryd.laysA with } u h w).mono fun _ _ h => ⟨by rw [← strL_dec]; exact h.1, h.2.symm⟩

theorem nd_any (u : Nat) (h1 : 1 ≤ u) (h2 : u < 18446744073709551616) (w : World) (ht : TB w) : Calls Tryd.prog 78 #[.int .u64 (u : Int)] w fun e w' => e = .returned (.int .i64 ((Lib.nDigits u : Nat) : Int)) ∧ w = w' :=
  (Any.internal_strconv_numDigits { Tryd.laysA with } u h1 h2 w ht.pow).mono fun _ _ h => ⟨h.1, h.2.symm⟩

def W24 (w : World) : World := w.alloc (.cells Lib.zeros24 103)
def FbPost (u : Nat) (w : World) (e : Ending) (w' : World) : Prop := e = .returned (.tuple #[]) ∧ Below w.heap.size w w' ∧ (convert 106 9 (.slice (some ⟨w.heap.size, 0, none⟩) (Lib.nDigits u) 24)).run Tryd.prog w' = .ok (.string (strL (digs 10 u))) w'
theorem fb10_any (u : Nat) (h1 : 1 ≤ u) (h2 : u < 18446744073709551616) (w : World) :
    Calls Tryd.prog 79 #[.slice (some ⟨w.heap.size, 0, none⟩) (Lib.nDigits u) 24, .int .u64 (u : Int)] (w.alloc (.cells Lib.zeros24 103)) (FbPost u w) := by
  have hnd20 : Lib.nDigits u ≤ 20 := by have := Lib.numDigits_eq u h1 h2; split at this <;> omega
  have hH0 := Lib.holds_zero0 w 103 (Lib.nDigits u) (by omega)
  have hfmt := Any.internal_strconv_formatBase10 { Tryd.laysA with } w.heap.size 0 24 u (Array.replicate (Lib.nDigits u) 0) (w.alloc (.cells Lib.zeros24 103)) hH0 (by rw [Array.size_replicate]; exact Lib.lt_pow_nDigits u) h2 (by rw [Array.size_replicate]; omega)
  rw [Array.size_replicate] at hfmt
  refine Calls.mono hfmt ?_
  rintro e w' ⟨rfl, k, v', dk, rfl, hF⟩
  refine ⟨rfl, ?_, ?_⟩
  · obtain ⟨os, eo⟩ := Lib.fin_at w (.cells Lib.zeros24 103) dk k 0
    rw [eo]
    exact Lib.below_grow _ w (Nat.le_refl _) k os
  · rw [← strL_dec]
    have h := run_convert_bytes_back (P := Tryd.prog) ((putRow (fun (b : UInt8) => Value.int .u8 (b.toNat : Int)) (w.alloc (.cells Lib.zeros24 103)) w.heap.size 0 dk).drewN k) 106 9 5 ⟨w.heap.size, 0, none⟩ 24 (Lib.decDigits u) Tryd.underlying106 Tryd.underlying5 Tryd.underlying9 (fun j hj => by
      rw [Lib.row_is_numeral hF j hj, Lib.add_plain, World.cell?_drewN]
      exact cell?_putRow (fun (b : UInt8) => Value.int .u8 (b.toNat : Int)) _ w.heap.size 0 _ dk hH0 (by rw [hF.size, Array.size_replicate]) j (by rw [hF.size]; rw [Lib.decDigits_length] at hj; exact hj))
    rw [Lib.decDigits_length] at h
    exact h

set_option maxRecDepth 100000 in
set_option maxHeartbeats 3200000 in
theorem fmt16_any (u : Nat) (w : World) (hu : u < 18446744073709551616) (ht : TB w) :
    Calls Tryd.prog 82 #[.int .u64 (u : Int), .int .i64 16] w fun e w' => e = .returned (.string (strL (digs 16 u))) ∧ Below w.heap.size w w' := by
  have FB := Lib.hid (fbits_any u w hu ht)
  have u1 : (u : Int) < 18446744073709551616 := by omega
  clear hu ht
  go_enter Tryd.func82, Tryd.ntmps82
  go_wp2_with fail
  refine FB.out.mono ?_
  rintro e w2 ⟨rfl, hb⟩
  have K2 := Lib.hid hb
  clear hb
  go_wp2
  go_ret
  exact ⟨rfl, K2.out⟩

set_option maxRecDepth 100000 in
set_option maxHeartbeats 3200000 in
theorem fmt10_any (u : Nat) (w : World) (hu : u < 18446744073709551616) (ht : TB w) :
    Calls Tryd.prog 82 #[.int .u64 (u : Int), .int .i64 10] w fun e w' => e = .returned (.string (strL (digs 10 u))) ∧ Below w.heap.size w w' := by
  have u0 : (0 : Int) ≤ (u : Int) := by omega
  have u1 : (u : Int) < 18446744073709551616 := by omega
  by_cases c : u < 100
  · have SM := Lib.hid (small_any u c)
    have c2 : (u : Int) < 100 := by omega
    clear ht c hu
    go_enter Tryd.func82, Tryd.ntmps82
    go_wp2_with fail
    refine (SM.out _).mono ?_
    rintro e w2 ⟨rfl, rfl⟩
    go_wp2
    go_ret
    exact ⟨rfl, Below.refl _ _⟩
  · have c2 : ¬ (u : Int) < 100 := by omega
    have c3 : (100 : Int) ≤ (u : Int) := by omega
    have hnd20 : Lib.nDigits u ≤ 20 := by have := Lib.numDigits_eq u (by omega) hu; split at this <;> omega
    have ND := Lib.hid (nd_any u (by omega) hu (w.alloc (.cells Lib.zeros24 103)) (ht.below (KB.alloc (Below.refl _ _) _)))
    have FB := Lib.hid (fb10_any u (by omega) hu w)
    obtain ⟨n, hn⟩ : ∃ n, n = Lib.nDigits u := ⟨_, rfl⟩
    unfold FbPost at FB
    rw [← hn] at ND FB hnd20
    have n0 : (0 : Int) ≤ (n : Int) := by omega
    have n1 : (n : Int) ≤ 20 := by omega
    have hsl : ∀ W, (Instr.sliceAt 103 (.pointer (some ⟨w.heap.size, 0, none⟩)) none (some (.int .i64 (n : Int))) none).run Tryd.prog W = .ok (.slice (some ⟨w.heap.size, 0, none⟩) n 24) W := fun W => by
      have hal : Tryd.prog.arrayLen 103 = 24 := by kernel_rfl
      rw [run_sliceAt_array_h W 103 ⟨w.heap.size, 0, none⟩ (by kernel_rfl) .i64 (n : Int) (by omega) (by rw [hal]; omega), hal]
      have e : (Go.sizeOf (Tryd.prog.elem 103)).run Tryd.prog W = .ok 1 W := by kernel_rfl
      rw [e]
      simp only [Result.andThen, slicedAt, Int.toNat_natCast, Lib.add_plain, Nat.mul_one, Nat.zero_add, Nat.sub_zero]
      split <;> rfl
    clear hn hu ht c
    go_enter Tryd.func82, Tryd.ntmps82
    go_wp2_with fail
    refine ND.out.mono ?_
    rintro e w2 ⟨rfl, rfl⟩
    go_wp2_with fail
    refine FB.out.mono ?_
    rintro e w2 ⟨rfl, hb, hcv⟩
    have K2 := Lib.hid hb
    clear hb
    go_wp2
    go_ret
    exact ⟨rfl, K2.out⟩

set_option maxRecDepth 100000 in
set_option maxHeartbeats 3200000 in
theorem dec_any (u : Nat) (w : World) (hu : u < 18446744073709551616) (ht : TB w) :
    Calls Tryd.prog 64 #[.int .u64 (u : Int)] w fun e w' => e = .returned (.string (decS u)) ∧ Below w.heap.size w w' := by
  have FU := Lib.hid (fmt10_any u w hu ht)
  have u1 : (u : Int) < 18446744073709551616 := by omega
  have FP : Calls Tryd.prog 72 #[.int .u64 (u : Int), .int .i64 10] w fun e w' => e = .returned (.string (strL (digs 10 u))) ∧ Below w.heap.size w w' := by
    clear hu ht
    go_enter Tryd.func72, Tryd.ntmps72
    go_wp2_with fail
    refine FU.out.mono ?_
    rintro e w2 ⟨rfl, hb⟩
    have K2 := Lib.hid hb
    clear hb
    go_wp2
    go_ret
    exact ⟨rfl, K2.out⟩
  have FP := Lib.hid FP
  clear hu ht FU
  go_enter Tryd.func64, Tryd.ntmps64
  go_wp2_with fail
  refine FP.out.mono ?_
  rintro e w2 ⟨rfl, hb⟩
  have K2 := Lib.hid hb
  clear hb
  go_wp2
  go_ret
  exact ⟨rfl, K2.out⟩

set_option maxRecDepth 100000 in
set_option maxHeartbeats 3200000 in
theorem int_any (n : Int) (w : World) (h0 : -9223372036854775808 ≤ n) (h1 : n ≤ 9223372036854775807) (ht : TB w) :
    Calls Tryd.prog 24 #[.int .i64 n] w fun e w' => e = .returned (.string (intS n)) ∧ Below w.heap.size w w' := by
  have FP : Calls Tryd.prog 45 #[.int .i64 n] w fun e w' => e = .returned (.string (intS n)) ∧ Below w.heap.size w w' :=
    (Any.strconv_Itoa Tryd.laysA n h0 h1 w ht.pow).mono fun _ _ h => ⟨h.1, by obtain ⟨k, os, e⟩ := h.2; rw [e]; exact Lib.below_grow _ w (Nat.le_refl _) k os⟩
  have FP := Lib.hid FP
  clear ht
  go_enter Tryd.func24, Tryd.ntmps24
  go_wp2_with fail
  refine FP.out.mono ?_
  rintro e w2 ⟨rfl, hb⟩
  have K2 := Lib.hid hb
  clear hb
  go_wp2
  go_ret
  exact ⟨rfl, K2.out⟩
end Go.Proofs.YtebpmngllljkaaaDoor
