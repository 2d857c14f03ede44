/-
  PLAIN NUMBERS for layer 3, further: the code's words, operation by operation.
-/
import Derived.Test.YtnehdgapcgbdeaaDoorIq
set_option linter.unusedSimpArgs false
set_option linter.unusedVariables false
namespace Go.Proofs.YtnehdgapcgbdeaaDoor
open Go.RowKit

theorem encw_1 (hb : True) : (bits .or .u32 (bits .or .u32 (bits .or .u32 (bits .or .u32 3573751839 0) 0) 0) 0) = GrI.word ⟨1, 0, 0, 0, 0, 0⟩ := by
  rw [or0 3573751839 (by omega) (by omega)]
  rw [or0 3573751839 (by omega) (by omega)]
  rw [or0 3573751839 (by omega) (by omega)]
  rw [or0 3573751839 (by omega) (by omega)]
  simp only [GrI.word]
  simp only [Int.reduceEq, if_true, if_false, or_false, or_true, false_or, true_or, Int.reduceMod, Int.reduceDiv]
  try omega

theorem encw_2 (d n imm : Int) (hb : 0 ≤ d ∧ d ≤ 31 ∧ 0 ≤ n ∧ n ≤ 31 ∧ 0 ≤ imm ∧ imm ≤ 32760 ∧ imm % 8 = 0) : (bits .or .u32 (bits .or .u32 (bits .or .u32 (bits .or .u32 (bits .or .u32 4181721088 d) (n * 32)) 0) (GrF.get (imm / 8) 11 0 % 4294967296 * 1024 % 4294967296)) 0) = GrI.word ⟨2, d, n, 0, imm, 0⟩ := by
  rw [or_one 5 32 rfl (by decide) 4181721088 d (by omega) (by omega) (by omega) (by omega) (by omega)]
  rw [or_mul 5 5 32 32 rfl rfl (by decide) (4181721088 + d) n (by omega) (by omega) (by omega) (by omega) (by omega)]
  rw [or0 ((4181721088 + d) + n * 32) (by omega) (by omega)]
  rw [(get_low (imm / 8) (by omega)).1]
  rw [show ((imm / 8) % 4096) % 4294967296 * 1024 % 4294967296 = ((imm / 8) % 4096) * 1024 by omega]
  rw [or_mul 10 12 1024 4096 rfl rfl (by decide) ((4181721088 + d) + n * 32) ((imm / 8) % 4096) (by omega) (by omega) (by omega) (by omega) (by omega)]
  rw [or0 (((4181721088 + d) + n * 32) + ((imm / 8) % 4096) * 1024) (by omega) (by omega)]
  simp only [GrI.word]
  simp only [Int.reduceEq, if_true, if_false, or_false, or_true, false_or, true_or, Int.reduceMod, Int.reduceDiv]
  try omega

theorem encw_3 (d n imm : Int) (hb : 0 ≤ d ∧ d ≤ 31 ∧ 0 ≤ n ∧ n ≤ 31 ∧ 0 ≤ imm ∧ imm ≤ 32760 ∧ imm % 8 = 0) : (bits .or .u32 (bits .or .u32 (bits .or .u32 (bits .or .u32 (bits .or .u32 4177526784 d) (n * 32)) 0) (GrF.get (imm / 8) 11 0 % 4294967296 * 1024 % 4294967296)) 0) = GrI.word ⟨3, d, n, 0, imm, 0⟩ := by
  rw [or_one 5 32 rfl (by decide) 4177526784 d (by omega) (by omega) (by omega) (by omega) (by omega)]
  rw [or_mul 5 5 32 32 rfl rfl (by decide) (4177526784 + d) n (by omega) (by omega) (by omega) (by omega) (by omega)]
  rw [or0 ((4177526784 + d) + n * 32) (by omega) (by omega)]
  rw [(get_low (imm / 8) (by omega)).1]
  rw [show ((imm / 8) % 4096) % 4294967296 * 1024 % 4294967296 = ((imm / 8) % 4096) * 1024 by omega]
  rw [or_mul 10 12 1024 4096 rfl rfl (by decide) ((4177526784 + d) + n * 32) ((imm / 8) % 4096) (by omega) (by omega) (by omega) (by omega) (by omega)]
  rw [or0 (((4177526784 + d) + n * 32) + ((imm / 8) % 4096) * 1024) (by omega) (by omega)]
  simp only [GrI.word]
  simp only [Int.reduceEq, if_true, if_false, or_false, or_true, false_or, true_or, Int.reduceMod, Int.reduceDiv]
  try omega

theorem encw_4 (d n : Int) (hb : 0 ≤ d ∧ d ≤ 31 ∧ 0 ≤ n ∧ n ≤ 31) : (bits .or .u32 (bits .or .u32 (bits .or .u32 (bits .or .u32 3370122240 d) (n * 32)) 0) 0) = GrI.word ⟨4, d, n, 0, 0, 0⟩ := by
  rw [or_one 5 32 rfl (by decide) 3370122240 d (by omega) (by omega) (by omega) (by omega) (by omega)]
  rw [or_mul 5 5 32 32 rfl rfl (by decide) (3370122240 + d) n (by omega) (by omega) (by omega) (by omega) (by omega)]
  rw [or0 ((3370122240 + d) + n * 32) (by omega) (by omega)]
  rw [or0 ((3370122240 + d) + n * 32) (by omega) (by omega)]
  simp only [GrI.word]
  simp only [Int.reduceEq, if_true, if_false, or_false, or_true, false_or, true_or, Int.reduceMod, Int.reduceDiv]
  try omega

theorem encw_5 (d n : Int) (hb : 0 ≤ d ∧ d ≤ 31 ∧ 0 ≤ n ∧ n ≤ 31) : (bits .or .u32 (bits .or .u32 (bits .or .u32 (bits .or .u32 3365927936 d) (n * 32)) 0) 0) = GrI.word ⟨5, d, n, 0, 0, 0⟩ := by
  rw [or_one 5 32 rfl (by decide) 3365927936 d (by omega) (by omega) (by omega) (by omega) (by omega)]
  rw [or_mul 5 5 32 32 rfl rfl (by decide) (3365927936 + d) n (by omega) (by omega) (by omega) (by omega) (by omega)]
  rw [or0 ((3365927936 + d) + n * 32) (by omega) (by omega)]
  rw [or0 ((3365927936 + d) + n * 32) (by omega) (by omega)]
  simp only [GrI.word]
  simp only [Int.reduceEq, if_true, if_false, or_false, or_true, false_or, true_or, Int.reduceMod, Int.reduceDiv]
  try omega

theorem encw_6 (d imm kind : Int) (hb : 0 ≤ d ∧ d ≤ 31 ∧ 0 ≤ imm ∧ imm ≤ 65535 ∧ 0 ≤ kind ∧ kind ≤ 3) : (bits .or .u32 (bits .or .u32 (bits .or .u32 (bits .or .u32 (bits .or .u32 3531603968 d) 0) 0) (GrF.get imm 15 0 % 4294967296 * 32 % 4294967296)) (kind * 2097152)) = GrI.word ⟨6, d, 0, 0, imm, kind⟩ := by
  rw [or_one 5 32 rfl (by decide) 3531603968 d (by omega) (by omega) (by omega) (by omega) (by omega)]
  rw [or0 (3531603968 + d) (by omega) (by omega)]
  rw [or0 (3531603968 + d) (by omega) (by omega)]
  rw [(get_low imm (by omega)).2.1]
  rw [show (imm % 65536) % 4294967296 * 32 % 4294967296 = (imm % 65536) * 32 by omega]
  rw [or_mul 5 16 32 65536 rfl rfl (by decide) (3531603968 + d) (imm % 65536) (by omega) (by omega) (by omega) (by omega) (by omega)]
  rw [or_mul 21 2 2097152 4 rfl rfl (by decide) ((3531603968 + d) + (imm % 65536) * 32) kind (by omega) (by omega) (by omega) (by omega) (by omega)]
  simp only [GrI.word]
  simp only [Int.reduceEq, if_true, if_false, or_false, or_true, false_or, true_or, Int.reduceMod, Int.reduceDiv]
  try omega

theorem encw_7 (d n imm : Int) (hb : 0 ≤ d ∧ d ≤ 31 ∧ 0 ≤ n ∧ n ≤ 31 ∧ 0 ≤ imm ∧ imm ≤ 4095) : (bits .or .u32 (bits .or .u32 (bits .or .u32 (bits .or .u32 (bits .or .u32 2432696320 d) (n * 32)) 0) (GrF.get imm 11 0 % 4294967296 * 1024 % 4294967296)) 0) = GrI.word ⟨7, d, n, 0, imm, 0⟩ := by
  rw [or_one 5 32 rfl (by decide) 2432696320 d (by omega) (by omega) (by omega) (by omega) (by omega)]
  rw [or_mul 5 5 32 32 rfl rfl (by decide) (2432696320 + d) n (by omega) (by omega) (by omega) (by omega) (by omega)]
  rw [or0 ((2432696320 + d) + n * 32) (by omega) (by omega)]
  rw [(get_low imm (by omega)).1]
  rw [show (imm % 4096) % 4294967296 * 1024 % 4294967296 = (imm % 4096) * 1024 by omega]
  rw [or_mul 10 12 1024 4096 rfl rfl (by decide) ((2432696320 + d) + n * 32) (imm % 4096) (by omega) (by omega) (by omega) (by omega) (by omega)]
  rw [or0 (((2432696320 + d) + n * 32) + (imm % 4096) * 1024) (by omega) (by omega)]
  simp only [GrI.word]
  simp only [Int.reduceEq, if_true, if_false, or_false, or_true, false_or, true_or, Int.reduceMod, Int.reduceDiv]
  try omega

theorem encw_8 (d n m : Int) (hb : 0 ≤ d ∧ d ≤ 31 ∧ 0 ≤ n ∧ n ≤ 31 ∧ 0 ≤ m ∧ m ≤ 31) : (bits .or .u32 (bits .or .u32 (bits .or .u32 (bits .or .u32 2332033024 d) (n * 32)) (m * 65536)) 0) = GrI.word ⟨8, d, n, m, 0, 0⟩ := by
  rw [or_one 5 32 rfl (by decide) 2332033024 d (by omega) (by omega) (by omega) (by omega) (by omega)]
  rw [or_mul 5 5 32 32 rfl rfl (by decide) (2332033024 + d) n (by omega) (by omega) (by omega) (by omega) (by omega)]
  rw [or_mul 16 5 65536 32 rfl rfl (by decide) ((2332033024 + d) + n * 32) m (by omega) (by omega) (by omega) (by omega) (by omega)]
  rw [or0 (((2332033024 + d) + n * 32) + m * 65536) (by omega) (by omega)]
  simp only [GrI.word]
  simp only [Int.reduceEq, if_true, if_false, or_false, or_true, false_or, true_or, Int.reduceMod, Int.reduceDiv]
  try omega

theorem encw_9 (d n m : Int) (hb : 0 ≤ d ∧ d ≤ 31 ∧ 0 ≤ n ∧ n ≤ 31 ∧ 0 ≤ m ∧ m ≤ 31) : (bits .or .u32 (bits .or .u32 (bits .or .u32 (bits .or .u32 3405774848 d) (n * 32)) (m * 65536)) 0) = GrI.word ⟨9, d, n, m, 0, 0⟩ := by
  rw [or_one 5 32 rfl (by decide) 3405774848 d (by omega) (by omega) (by omega) (by omega) (by omega)]
  rw [or_mul 5 5 32 32 rfl rfl (by decide) (3405774848 + d) n (by omega) (by omega) (by omega) (by omega) (by omega)]
  rw [or_mul 16 5 65536 32 rfl rfl (by decide) ((3405774848 + d) + n * 32) m (by omega) (by omega) (by omega) (by omega) (by omega)]
  rw [or0 (((3405774848 + d) + n * 32) + m * 65536) (by omega) (by omega)]
  simp only [GrI.word]
  simp only [Int.reduceEq, if_true, if_false, or_false, or_true, false_or, true_or, Int.reduceMod, Int.reduceDiv]
  try omega

theorem encw_10 (d n m : Int) (hb : 0 ≤ d ∧ d ≤ 31 ∧ 0 ≤ n ∧ n ≤ 31 ∧ 0 ≤ m ∧ m ≤ 31) : (bits .or .u32 (bits .or .u32 (bits .or .u32 (bits .or .u32 2315255808 d) (n * 32)) (m * 65536)) 0) = GrI.word ⟨10, d, n, m, 0, 0⟩ := by
  rw [or_one 5 32 rfl (by decide) 2315255808 d (by omega) (by omega) (by omega) (by omega) (by omega)]
  rw [or_mul 5 5 32 32 rfl rfl (by decide) (2315255808 + d) n (by omega) (by omega) (by omega) (by omega) (by omega)]
  rw [or_mul 16 5 65536 32 rfl rfl (by decide) ((2315255808 + d) + n * 32) m (by omega) (by omega) (by omega) (by omega) (by omega)]
  rw [or0 (((2315255808 + d) + n * 32) + m * 65536) (by omega) (by omega)]
  simp only [GrI.word]
  simp only [Int.reduceEq, if_true, if_false, or_false, or_true, false_or, true_or, Int.reduceMod, Int.reduceDiv]
  try omega

theorem encw_11 (d n m : Int) (hb : 0 ≤ d ∧ d ≤ 31 ∧ 0 ≤ n ∧ n ≤ 31 ∧ 0 ≤ m ∧ m ≤ 31) : (bits .or .u32 (bits .or .u32 (bits .or .u32 (bits .or .u32 2852126720 d) (n * 32)) (m * 65536)) 0) = GrI.word ⟨11, d, n, m, 0, 0⟩ := by
  rw [or_one 5 32 rfl (by decide) 2852126720 d (by omega) (by omega) (by omega) (by omega) (by omega)]
  rw [or_mul 5 5 32 32 rfl rfl (by decide) (2852126720 + d) n (by omega) (by omega) (by omega) (by omega) (by omega)]
  rw [or_mul 16 5 65536 32 rfl rfl (by decide) ((2852126720 + d) + n * 32) m (by omega) (by omega) (by omega) (by omega) (by omega)]
  rw [or0 (((2852126720 + d) + n * 32) + m * 65536) (by omega) (by omega)]
  simp only [GrI.word]
  simp only [Int.reduceEq, if_true, if_false, or_false, or_true, false_or, true_or, Int.reduceMod, Int.reduceDiv]
  try omega

theorem encw_12 (d n m : Int) (hb : 0 ≤ d ∧ d ≤ 31 ∧ 0 ≤ n ∧ n ≤ 31 ∧ 0 ≤ m ∧ m ≤ 31) : (bits .or .u32 (bits .or .u32 (bits .or .u32 (bits .or .u32 3388997632 d) (n * 32)) (m * 65536)) 0) = GrI.word ⟨12, d, n, m, 0, 0⟩ := by
  rw [or_one 5 32 rfl (by decide) 3388997632 d (by omega) (by omega) (by omega) (by omega) (by omega)]
  rw [or_mul 5 5 32 32 rfl rfl (by decide) (3388997632 + d) n (by omega) (by omega) (by omega) (by omega) (by omega)]
  rw [or_mul 16 5 65536 32 rfl rfl (by decide) ((3388997632 + d) + n * 32) m (by omega) (by omega) (by omega) (by omega) (by omega)]
  rw [or0 (((3388997632 + d) + n * 32) + m * 65536) (by omega) (by omega)]
  simp only [GrI.word]
  simp only [Int.reduceEq, if_true, if_false, or_false, or_true, false_or, true_or, Int.reduceMod, Int.reduceDiv]
  try omega

theorem encw_13 (d n m : Int) (hb : 0 ≤ d ∧ d ≤ 31 ∧ 0 ≤ n ∧ n ≤ 31 ∧ 0 ≤ m ∧ m ≤ 31) : (bits .or .u32 (bits .or .u32 (bits .or .u32 (bits .or .u32 3942645760 d) (n * 32)) (m * 65536)) 0) = GrI.word ⟨13, d, n, m, 0, 0⟩ := by
  rw [or_one 5 32 rfl (by decide) 3942645760 d (by omega) (by omega) (by omega) (by omega) (by omega)]
  rw [or_mul 5 5 32 32 rfl rfl (by decide) (3942645760 + d) n (by omega) (by omega) (by omega) (by omega) (by omega)]
  rw [or_mul 16 5 65536 32 rfl rfl (by decide) ((3942645760 + d) + n * 32) m (by omega) (by omega) (by omega) (by omega) (by omega)]
  rw [or0 (((3942645760 + d) + n * 32) + m * 65536) (by omega) (by omega)]
  simp only [GrI.word]
  simp only [Int.reduceEq, if_true, if_false, or_false, or_true, false_or, true_or, Int.reduceMod, Int.reduceDiv]
  try omega

theorem encw_14 (imm : Int) (hb : -33554432 ≤ imm ∧ imm ≤ 33554431) : (bits .or .u32 (bits .or .u32 (bits .or .u32 (bits .or .u32 (bits .or .u32 335544320 0) 0) 0) (GrF.get (IntKind.u64.wrap imm) 25 0 % 4294967296)) 0) = GrI.word ⟨14, 0, 0, 0, imm, 0⟩ := by
  rw [or0 335544320 (by omega) (by omega)]
  rw [or0 335544320 (by omega) (by omega)]
  rw [or0 335544320 (by omega) (by omega)]
  rw [(get_low (IntKind.u64.wrap imm) (uw_lo imm)).2.2.1, IntKind.wrap_u64]
  rw [show (imm % 18446744073709551616 % 67108864) % 4294967296 = (imm % 18446744073709551616 % 67108864) by omega]
  rw [or_one 26 67108864 rfl (by decide) 335544320 (imm % 18446744073709551616 % 67108864) (by omega) (by omega) (by omega) (by omega) (by omega)]
  rw [or0 (335544320 + (imm % 18446744073709551616 % 67108864)) (by omega) (by omega)]
  simp only [GrI.word]
  simp only [Int.reduceEq, if_true, if_false, or_false, or_true, false_or, true_or, Int.reduceMod, Int.reduceDiv]
  try omega

theorem encw_15 (d imm : Int) (hb : 0 ≤ d ∧ d ≤ 31 ∧ -262144 ≤ imm ∧ imm ≤ 262143) : (bits .or .u32 (bits .or .u32 (bits .or .u32 (bits .or .u32 (bits .or .u32 3019898880 d) 0) 0) (GrF.get (IntKind.u64.wrap imm) 18 0 % 4294967296 * 32 % 4294967296)) 0) = GrI.word ⟨15, d, 0, 0, imm, 0⟩ := by
  rw [or_one 5 32 rfl (by decide) 3019898880 d (by omega) (by omega) (by omega) (by omega) (by omega)]
  rw [or0 (3019898880 + d) (by omega) (by omega)]
  rw [or0 (3019898880 + d) (by omega) (by omega)]
  rw [(get_low (IntKind.u64.wrap imm) (uw_lo imm)).2.2.2, IntKind.wrap_u64]
  rw [show (imm % 18446744073709551616 % 524288) % 4294967296 * 32 % 4294967296 = (imm % 18446744073709551616 % 524288) * 32 by omega]
  rw [or_mul 5 19 32 524288 rfl rfl (by decide) (3019898880 + d) (imm % 18446744073709551616 % 524288) (by omega) (by omega) (by omega) (by omega) (by omega)]
  rw [or0 ((3019898880 + d) + (imm % 18446744073709551616 % 524288) * 32) (by omega) (by omega)]
  simp only [GrI.word]
  simp only [Int.reduceEq, if_true, if_false, or_false, or_true, false_or, true_or, Int.reduceMod, Int.reduceDiv]
  try omega

theorem encw_16 (d imm : Int) (hb : 0 ≤ d ∧ d ≤ 31 ∧ -262144 ≤ imm ∧ imm ≤ 262143) : (bits .or .u32 (bits .or .u32 (bits .or .u32 (bits .or .u32 (bits .or .u32 3036676096 d) 0) 0) (GrF.get (IntKind.u64.wrap imm) 18 0 % 4294967296 * 32 % 4294967296)) 0) = GrI.word ⟨16, d, 0, 0, imm, 0⟩ := by
  rw [or_one 5 32 rfl (by decide) 3036676096 d (by omega) (by omega) (by omega) (by omega) (by omega)]
  rw [or0 (3036676096 + d) (by omega) (by omega)]
  rw [or0 (3036676096 + d) (by omega) (by omega)]
  rw [(get_low (IntKind.u64.wrap imm) (uw_lo imm)).2.2.2, IntKind.wrap_u64]
  rw [show (imm % 18446744073709551616 % 524288) % 4294967296 * 32 % 4294967296 = (imm % 18446744073709551616 % 524288) * 32 by omega]
  rw [or_mul 5 19 32 524288 rfl rfl (by decide) (3036676096 + d) (imm % 18446744073709551616 % 524288) (by omega) (by omega) (by omega) (by omega) (by omega)]
  rw [or0 ((3036676096 + d) + (imm % 18446744073709551616 % 524288) * 32) (by omega) (by omega)]
  simp only [GrI.word]
  simp only [Int.reduceEq, if_true, if_false, or_false, or_true, false_or, true_or, Int.reduceMod, Int.reduceDiv]
  try omega

theorem encw_17 (imm kind : Int) (hb : -262144 ≤ imm ∧ imm ≤ 262143 ∧ 0 ≤ kind ∧ kind ≤ 1) : (bits .or .u32 (bits .or .u32 (bits .or .u32 (bits .or .u32 (bits .or .u32 1409286144 0) 0) 0) (GrF.get (IntKind.u64.wrap imm) 18 0 % 4294967296 * 32 % 4294967296)) kind) = GrI.word ⟨17, 0, 0, 0, imm, kind⟩ := by
  rw [or0 1409286144 (by omega) (by omega)]
  rw [or0 1409286144 (by omega) (by omega)]
  rw [or0 1409286144 (by omega) (by omega)]
  rw [(get_low (IntKind.u64.wrap imm) (uw_lo imm)).2.2.2, IntKind.wrap_u64]
  rw [show (imm % 18446744073709551616 % 524288) % 4294967296 * 32 % 4294967296 = (imm % 18446744073709551616 % 524288) * 32 by omega]
  rw [or_mul 5 19 32 524288 rfl rfl (by decide) 1409286144 (imm % 18446744073709551616 % 524288) (by omega) (by omega) (by omega) (by omega) (by omega)]
  rw [or_one 1 2 rfl (by decide) (1409286144 + (imm % 18446744073709551616 % 524288) * 32) kind (by omega) (by omega) (by omega) (by omega) (by omega)]
  simp only [GrI.word]
  simp only [Int.reduceEq, if_true, if_false, or_false, or_true, false_or, true_or, Int.reduceMod, Int.reduceDiv]
  try omega

theorem encw_18 (kind : Int) (hb : 9 ≤ kind ∧ kind ≤ 15) : (bits .or .u32 (bits .or .u32 (bits .or .u32 (bits .or .u32 3573756095 0) 0) 0) (kind * 256)) = GrI.word ⟨18, 0, 0, 0, 0, kind⟩ := by
  rw [or0 3573756095 (by omega) (by omega)]
  rw [or0 3573756095 (by omega) (by omega)]
  rw [or0 3573756095 (by omega) (by omega)]
  rw [or_mul 8 4 256 16 rfl rfl (by decide) 3573756095 kind (by omega) (by omega) (by omega) (by omega) (by omega)]
  simp only [GrI.word]
  simp only [Int.reduceEq, if_true, if_false, or_false, or_true, false_or, true_or, Int.reduceMod, Int.reduceDiv]
  try omega

theorem encw_19 (kind : Int) (hb : 9 ≤ kind ∧ kind ≤ 15) : (bits .or .u32 (bits .or .u32 (bits .or .u32 (bits .or .u32 3573756063 0) 0) 0) (kind * 256)) = GrI.word ⟨19, 0, 0, 0, 0, kind⟩ := by
  rw [or0 3573756063 (by omega) (by omega)]
  rw [or0 3573756063 (by omega) (by omega)]
  rw [or0 3573756063 (by omega) (by omega)]
  rw [or_mul 8 4 256 16 rfl rfl (by decide) 3573756063 kind (by omega) (by omega) (by omega) (by omega) (by omega)]
  simp only [GrI.word]
  simp only [Int.reduceEq, if_true, if_false, or_false, or_true, false_or, true_or, Int.reduceMod, Int.reduceDiv]
  try omega

theorem encw_20 (hb : True) : (bits .or .u32 (bits .or .u32 (bits .or .u32 (bits .or .u32 3573759967 0) 0) 0) 0) = GrI.word ⟨20, 0, 0, 0, 0, 0⟩ := by
  rw [or0 3573759967 (by omega) (by omega)]
  rw [or0 3573759967 (by omega) (by omega)]
  rw [or0 3573759967 (by omega) (by omega)]
  rw [or0 3573759967 (by omega) (by omega)]
  simp only [GrI.word]
  simp only [Int.reduceEq, if_true, if_false, or_false, or_true, false_or, true_or, Int.reduceMod, Int.reduceDiv]
  try omega

theorem encw_21_0 (d kind : Int) (hb : 0 ≤ d ∧ d ≤ 31 ∧ 0 ≤ kind ∧ kind ≤ 7) : (bits .or .u32 (bits .or .u32 (bits .or .u32 (bits .or .u32 3574104832 d) 0) 0) 0) = GrI.word ⟨21, d, 0, 0, 0, 0⟩ := by
  have z : (bits .or .u32 3574104832 d) = 3574104832 + d := or_one 5 32 rfl (by decide) 3574104832 d (by omega) (by omega) (by omega) (by omega) (by omega)
  rw [z, or0 (3574104832 + d) (by omega) (by omega), or0 (3574104832 + d) (by omega) (by omega), ← z, or_swap 3574104832 d 0 (by omega) (by omega) (by omega) (by omega) (by omega) (by omega)]
  have y : bits .or .u32 3574104832 0 = 3574104832 := by
    have := bits_or_u32_nat 3574104832 0 (by decide) (by decide)
    exact this
  rw [y, or_one 5 32 rfl (by decide) 3574104832 d (by omega) (by omega) (by omega) (by omega) (by omega)]
  simp only [GrI.word]
  simp only [Int.reduceEq, if_true, if_false, or_false, or_true, false_or, true_or, Int.reduceMod, Int.reduceDiv]
  try omega

theorem encw_21_1 (d kind : Int) (hb : 0 ≤ d ∧ d ≤ 31 ∧ 0 ≤ kind ∧ kind ≤ 7) : (bits .or .u32 (bits .or .u32 (bits .or .u32 (bits .or .u32 3574104832 d) 0) 0) 32) = GrI.word ⟨21, d, 0, 0, 0, 1⟩ := by
  have z : (bits .or .u32 3574104832 d) = 3574104832 + d := or_one 5 32 rfl (by decide) 3574104832 d (by omega) (by omega) (by omega) (by omega) (by omega)
  rw [z, or0 (3574104832 + d) (by omega) (by omega), or0 (3574104832 + d) (by omega) (by omega), ← z, or_swap 3574104832 d 32 (by omega) (by omega) (by omega) (by omega) (by omega) (by omega)]
  have y : bits .or .u32 3574104832 32 = 3574104864 := by
    have := bits_or_u32_nat 3574104832 32 (by decide) (by decide)
    exact this
  rw [y, or_one 5 32 rfl (by decide) 3574104864 d (by omega) (by omega) (by omega) (by omega) (by omega)]
  simp only [GrI.word]
  simp only [Int.reduceEq, if_true, if_false, or_false, or_true, false_or, true_or, Int.reduceMod, Int.reduceDiv]
  try omega

theorem encw_21_2 (d kind : Int) (hb : 0 ≤ d ∧ d ≤ 31 ∧ 0 ≤ kind ∧ kind ≤ 7) : (bits .or .u32 (bits .or .u32 (bits .or .u32 (bits .or .u32 3574104832 d) 0) 0) 96) = GrI.word ⟨21, d, 0, 0, 0, 2⟩ := by
  have z : (bits .or .u32 3574104832 d) = 3574104832 + d := or_one 5 32 rfl (by decide) 3574104832 d (by omega) (by omega) (by omega) (by omega) (by omega)
  rw [z, or0 (3574104832 + d) (by omega) (by omega), or0 (3574104832 + d) (by omega) (by omega), ← z, or_swap 3574104832 d 96 (by omega) (by omega) (by omega) (by omega) (by omega) (by omega)]
  have y : bits .or .u32 3574104832 96 = 3574104928 := by
    have := bits_or_u32_nat 3574104832 96 (by decide) (by decide)
    exact this
  rw [y, or_one 5 32 rfl (by decide) 3574104928 d (by omega) (by omega) (by omega) (by omega) (by omega)]
  simp only [GrI.word]
  simp only [Int.reduceEq, if_true, if_false, or_false, or_true, false_or, true_or, Int.reduceMod, Int.reduceDiv]
  try omega

theorem encw_21_3 (d kind : Int) (hb : 0 ≤ d ∧ d ≤ 31 ∧ 0 ≤ kind ∧ kind ≤ 7) : (bits .or .u32 (bits .or .u32 (bits .or .u32 (bits .or .u32 3574104832 d) 0) 0) 64) = GrI.word ⟨21, d, 0, 0, 0, 3⟩ := by
  have z : (bits .or .u32 3574104832 d) = 3574104832 + d := or_one 5 32 rfl (by decide) 3574104832 d (by omega) (by omega) (by omega) (by omega) (by omega)
  rw [z, or0 (3574104832 + d) (by omega) (by omega), or0 (3574104832 + d) (by omega) (by omega), ← z, or_swap 3574104832 d 64 (by omega) (by omega) (by omega) (by omega) (by omega) (by omega)]
  have y : bits .or .u32 3574104832 64 = 3574104896 := by
    have := bits_or_u32_nat 3574104832 64 (by decide) (by decide)
    exact this
  rw [y, or_one 5 32 rfl (by decide) 3574104896 d (by omega) (by omega) (by omega) (by omega) (by omega)]
  simp only [GrI.word]
  simp only [Int.reduceEq, if_true, if_false, or_false, or_true, false_or, true_or, Int.reduceMod, Int.reduceDiv]
  try omega

theorem encw_21_4 (d kind : Int) (hb : 0 ≤ d ∧ d ≤ 31 ∧ 0 ≤ kind ∧ kind ≤ 7) : (bits .or .u32 (bits .or .u32 (bits .or .u32 (bits .or .u32 3574104832 d) 0) 0) 1024) = GrI.word ⟨21, d, 0, 0, 0, 4⟩ := by
  have z : (bits .or .u32 3574104832 d) = 3574104832 + d := or_one 5 32 rfl (by decide) 3574104832 d (by omega) (by omega) (by omega) (by omega) (by omega)
  rw [z, or0 (3574104832 + d) (by omega) (by omega), or0 (3574104832 + d) (by omega) (by omega), ← z, or_swap 3574104832 d 1024 (by omega) (by omega) (by omega) (by omega) (by omega) (by omega)]
  have y : bits .or .u32 3574104832 1024 = 3574105856 := by
    have := bits_or_u32_nat 3574104832 1024 (by decide) (by decide)
    exact this
  rw [y, or_one 5 32 rfl (by decide) 3574105856 d (by omega) (by omega) (by omega) (by omega) (by omega)]
  simp only [GrI.word]
  simp only [Int.reduceEq, if_true, if_false, or_false, or_true, false_or, true_or, Int.reduceMod, Int.reduceDiv]
  try omega

theorem encw_21_5 (d kind : Int) (hb : 0 ≤ d ∧ d ≤ 31 ∧ 0 ≤ kind ∧ kind ≤ 7) : (bits .or .u32 (bits .or .u32 (bits .or .u32 (bits .or .u32 3574104832 d) 0) 0) 1056) = GrI.word ⟨21, d, 0, 0, 0, 5⟩ := by
  have z : (bits .or .u32 3574104832 d) = 3574104832 + d := or_one 5 32 rfl (by decide) 3574104832 d (by omega) (by omega) (by omega) (by omega) (by omega)
  rw [z, or0 (3574104832 + d) (by omega) (by omega), or0 (3574104832 + d) (by omega) (by omega), ← z, or_swap 3574104832 d 1056 (by omega) (by omega) (by omega) (by omega) (by omega) (by omega)]
  have y : bits .or .u32 3574104832 1056 = 3574105888 := by
    have := bits_or_u32_nat 3574104832 1056 (by decide) (by decide)
    exact this
  rw [y, or_one 5 32 rfl (by decide) 3574105888 d (by omega) (by omega) (by omega) (by omega) (by omega)]
  simp only [GrI.word]
  simp only [Int.reduceEq, if_true, if_false, or_false, or_true, false_or, true_or, Int.reduceMod, Int.reduceDiv]
  try omega

theorem encw_21_6 (d kind : Int) (hb : 0 ≤ d ∧ d ≤ 31 ∧ 0 ≤ kind ∧ kind ≤ 7) : (bits .or .u32 (bits .or .u32 (bits .or .u32 (bits .or .u32 3574104832 d) 0) 0) 1120) = GrI.word ⟨21, d, 0, 0, 0, 6⟩ := by
  have z : (bits .or .u32 3574104832 d) = 3574104832 + d := or_one 5 32 rfl (by decide) 3574104832 d (by omega) (by omega) (by omega) (by omega) (by omega)
  rw [z, or0 (3574104832 + d) (by omega) (by omega), or0 (3574104832 + d) (by omega) (by omega), ← z, or_swap 3574104832 d 1120 (by omega) (by omega) (by omega) (by omega) (by omega) (by omega)]
  have y : bits .or .u32 3574104832 1120 = 3574105952 := by
    have := bits_or_u32_nat 3574104832 1120 (by decide) (by decide)
    exact this
  rw [y, or_one 5 32 rfl (by decide) 3574105952 d (by omega) (by omega) (by omega) (by omega) (by omega)]
  simp only [GrI.word]
  simp only [Int.reduceEq, if_true, if_false, or_false, or_true, false_or, true_or, Int.reduceMod, Int.reduceDiv]
  try omega

theorem encw_21_7 (d kind : Int) (hb : 0 ≤ d ∧ d ≤ 31 ∧ 0 ≤ kind ∧ kind ≤ 7) : (bits .or .u32 (bits .or .u32 (bits .or .u32 (bits .or .u32 3574104832 d) 0) 0) 1088) = GrI.word ⟨21, d, 0, 0, 0, 7⟩ := by
  have z : (bits .or .u32 3574104832 d) = 3574104832 + d := or_one 5 32 rfl (by decide) 3574104832 d (by omega) (by omega) (by omega) (by omega) (by omega)
  rw [z, or0 (3574104832 + d) (by omega) (by omega), or0 (3574104832 + d) (by omega) (by omega), ← z, or_swap 3574104832 d 1088 (by omega) (by omega) (by omega) (by omega) (by omega) (by omega)]
  have y : bits .or .u32 3574104832 1088 = 3574105920 := by
    have := bits_or_u32_nat 3574104832 1088 (by decide) (by decide)
    exact this
  rw [y, or_one 5 32 rfl (by decide) 3574105920 d (by omega) (by omega) (by omega) (by omega) (by omega)]
  simp only [GrI.word]
  simp only [Int.reduceEq, if_true, if_false, or_false, or_true, false_or, true_or, Int.reduceMod, Int.reduceDiv]
  try omega

theorem encw_22 (hb : True) : (bits .or .u32 (bits .or .u32 (bits .or .u32 (bits .or .u32 3600745440 0) 0) 0) 0) = GrI.word ⟨22, 0, 0, 0, 0, 0⟩ := by
  rw [or0 3600745440 (by omega) (by omega)]
  rw [or0 3600745440 (by omega) (by omega)]
  rw [or0 3600745440 (by omega) (by omega)]
  rw [or0 3600745440 (by omega) (by omega)]
  simp only [GrI.word]
  simp only [Int.reduceEq, if_true, if_false, or_false, or_true, false_or, true_or, Int.reduceMod, Int.reduceDiv]
  try omega

theorem encw_23_0 (d kind : Int) (hb : 0 ≤ d ∧ d ≤ 31 ∧ 0 ≤ kind ∧ kind ≤ 2) : (bits .or .u32 (bits .or .u32 (bits .or .u32 (bits .or .u32 3577217024 d) 0) 0) 20992) = GrI.word ⟨23, d, 0, 0, 0, 0⟩ := by
  have z : (bits .or .u32 3577217024 d) = 3577217024 + d := or_one 5 32 rfl (by decide) 3577217024 d (by omega) (by omega) (by omega) (by omega) (by omega)
  rw [z, or0 (3577217024 + d) (by omega) (by omega), or0 (3577217024 + d) (by omega) (by omega), ← z, or_swap 3577217024 d 20992 (by omega) (by omega) (by omega) (by omega) (by omega) (by omega)]
  have y : bits .or .u32 3577217024 20992 = 3577238016 := by
    have := bits_or_u32_nat 3577217024 20992 (by decide) (by decide)
    exact this
  rw [y, or_one 5 32 rfl (by decide) 3577238016 d (by omega) (by omega) (by omega) (by omega) (by omega)]
  simp only [GrI.word]
  simp only [Int.reduceEq, if_true, if_false, or_false, or_true, false_or, true_or, Int.reduceMod, Int.reduceDiv]
  try omega

theorem encw_23_1 (d kind : Int) (hb : 0 ≤ d ∧ d ≤ 31 ∧ 0 ≤ kind ∧ kind ≤ 2) : (bits .or .u32 (bits .or .u32 (bits .or .u32 (bits .or .u32 3577217024 d) 0) 0) 24576) = GrI.word ⟨23, d, 0, 0, 0, 1⟩ := by
  have z : (bits .or .u32 3577217024 d) = 3577217024 + d := or_one 5 32 rfl (by decide) 3577217024 d (by omega) (by omega) (by omega) (by omega) (by omega)
  rw [z, or0 (3577217024 + d) (by omega) (by omega), or0 (3577217024 + d) (by omega) (by omega), ← z, or_swap 3577217024 d 24576 (by omega) (by omega) (by omega) (by omega) (by omega) (by omega)]
  have y : bits .or .u32 3577217024 24576 = 3577241600 := by
    have := bits_or_u32_nat 3577217024 24576 (by decide) (by decide)
    exact this
  rw [y, or_one 5 32 rfl (by decide) 3577241600 d (by omega) (by omega) (by omega) (by omega) (by omega)]
  simp only [GrI.word]
  simp only [Int.reduceEq, if_true, if_false, or_false, or_true, false_or, true_or, Int.reduceMod, Int.reduceDiv]
  try omega

theorem encw_23_2 (d kind : Int) (hb : 0 ≤ d ∧ d ≤ 31 ∧ 0 ≤ kind ∧ kind ≤ 2) : (bits .or .u32 (bits .or .u32 (bits .or .u32 (bits .or .u32 3577217024 d) 0) 0) 16416) = GrI.word ⟨23, d, 0, 0, 0, 2⟩ := by
  have z : (bits .or .u32 3577217024 d) = 3577217024 + d := or_one 5 32 rfl (by decide) 3577217024 d (by omega) (by omega) (by omega) (by omega) (by omega)
  rw [z, or0 (3577217024 + d) (by omega) (by omega), or0 (3577217024 + d) (by omega) (by omega), ← z, or_swap 3577217024 d 16416 (by omega) (by omega) (by omega) (by omega) (by omega) (by omega)]
  have y : bits .or .u32 3577217024 16416 = 3577233440 := by
    have := bits_or_u32_nat 3577217024 16416 (by decide) (by decide)
    exact this
  rw [y, or_one 5 32 rfl (by decide) 3577233440 d (by omega) (by omega) (by omega) (by omega) (by omega)]
  simp only [GrI.word]
  simp only [Int.reduceEq, if_true, if_false, or_false, or_true, false_or, true_or, Int.reduceMod, Int.reduceDiv]
  try omega

end Go.Proofs.YtnehdgapcgbdeaaDoor
