/-
  Layer 2, the walks: internal/strconv.formatBits at base 16.
-/
import Derived.Test.YteiokenijmaloaaDoorHc
import Derived.Laws.IdiomStrings
set_option linter.unusedSimpArgs false
set_option linter.unusedVariables false
namespace GrP
open Go
def g8 (b : UInt8) : Value := .int .u8 (b.toNat : Int)
theorem dig_at : ∀ d : Fin 16, (⟨#[48, 49, 50, 51, 52, 53, 54, 55, 56, 57, 97, 98, 99, 100, 101, 102, 103, 104, 105, 106, 107, 108, 109, 110, 111, 112, 113, 114, 115, 116, 117, 118, 119, 120, 121, 122]⟩ : ByteArray)[d.val]'(by have := d.isLt; show d.val < 36; omega) = dgc d.val := by decide +kernel
theorem drop_set (L : List UInt8) (i : Nat) (v : UInt8) (h : i < L.length) : (L.set i v).drop i = v :: L.drop (i + 1) := by
  apply List.ext_getElem?
  intro j
  cases j with
  | zero => simp [h]
  | succ j =>
    simp only [List.getElem?_drop, List.getElem?_cons_succ]
    rw [List.getElem?_set_ne (by omega)]
    congr 1; omega
theorem and15 (u : Nat) (h : u < 18446744073709551616) : bits .and .u64 (u : Int) 15 = ((u % 16 : Nat) : Int) := by
  have := u64_and_nat u 15 h (by decide)
  rw [show ((15 : Nat) : Int) = 15 from rfl] at this
  rw [this]
  congr 1
  exact Nat.and_two_pow_sub_one_eq_mod u 4
end GrP
namespace Go.Proofs.YteiokenijmaloaaDoor
open Go.RowKit GrP

theorem idx_dig (d : Nat) (h : d < 16) (w : World) : (Instr.index 9 (.string ⟨#[48, 49, 50, 51, 52, 53, 54, 55, 56, 57, 97, 98, 99, 100, 101, 102, 103, 104, 105, 106, 107, 108, 109, 110, 111, 112, 113, 114, 115, 116, 117, 118, 119, 120, 121, 122]⟩) (.int .u64 (d : Int))).run Tryd.prog w = .ok (.int .u8 ((dgc d).toNat : Int)) w := by
  have e := dig_at ⟨d, h⟩
  simp only at e
  rw [run_index_string w 9 _ .u64 _ Tryd.underlying9, dif_pos ⟨by omega, by show (d : Int) < 36; omega⟩]
  have : ((d : Int)).toNat = d := by omega
  simp only [this, e]

theorem RowG.put {V : World} {B : Nat} {L : List UInt8} {T : TypeId} (h : Row V B (L.map g8) T) (i : Nat) (b : UInt8) : Row (V.setCell ⟨B, i, none⟩ (.int .u8 (b.toNat : Int))) B ((L.set i b).map g8) T := by
  have := h.set i (.int .u8 (b.toNat : Int))
  rw [show ((L.set i b).map g8) = (L.map g8).set i (.int .u8 (b.toNat : Int)) by rw [List.map_set]; rfl]
  exact this

def Z65 : Array Value := ((List.replicate 65 (0 : UInt8)).map g8).toArray
theorem zero65 (w : World) : (zeroValue 52).run Tryd.prog w = .ok (.agg Z65) w := by kernel_rfl
theorem row65 (w : World) : Row (w.alloc (.cells Z65 52)) w.heap.size ((List.replicate 65 (0 : UInt8)).map g8) 52 := Row.new w _ _
theorem conv_g {V : World} {B : Nat} {L : List UInt8} (h : Row V B (L.map g8) 52) (i n : Nat) (hn : n + i = L.length) (cap : Nat) :
    (convert 44 9 (.slice (some ⟨B, i, none⟩) n cap)).run Tryd.prog V = .ok (.string (strL (L.drop i))) V := by
  have e : n = (L.drop i).length := by rw [List.length_drop]; omega
  have := run_convert_bytes_back (P := Tryd.prog) V 44 9 5 ⟨B, i, none⟩ cap (L.drop i) Tryd.underlying44 Tryd.underlying5 Tryd.underlying9 (fun j hj => by
    rw [Lib.add_plain]
    rw [h.cell (i + j), List.getElem?_map, List.getElem_drop]
    have : i + j < L.length := by rw [List.length_drop] at hj; omega
    rw [List.getElem?_eq_getElem this]
    rfl)
  rw [← e] at this
  exact this

set_option maxRecDepth 100000 in
set_option maxHeartbeats 6400000 in
theorem fbits_any (u : Nat) (w : World) (hu : u < 18446744073709551616) (ht : TB w) :
    Calls Tryd.prog 28 #[.slice none 0 0, .int .u64 (u : Int), .int .i64 16, .bool false, .bool false] w fun e w' => e = .returned (.tuple #[.slice none 0 0, .string (strL (digs 16 u))]) ∧ Below w.heap.size w w' := by
  have B0 := Lib.hid (show Below w.heap.size w (w.alloc (.cells Z65 52)) from KB.alloc (Below.refl _ _) _)
  have TH := Lib.hid (ht.below B0.out)
  have HU := Lib.hid hu
  have u0 : (0 : Int) ≤ (u : Int) := by omega
  have u1 : (u : Int) < 18446744073709551616 := by omega
  have R0 := Lib.hid (row65 w)
  have z65 := zero65
  obtain ⟨B, hB⟩ : ∃ B, B = w.heap.size := ⟨_, rfl⟩
  clear hu ht
  go_enter Tryd.func28, Tryd.ntmps28
  go_wp2_with fail
  refine (ipot_any _).mono ?_
  rintro e w1 ⟨rfl, rfl⟩
  go_wp2_with fail
  refine (tz_any _ TH.out).mono ?_
  rintro e w1 ⟨rfl, rfl⟩
  clear z65
  go_wp2_with fail
  go_loopw [1, 13] (fun uv iv wr => ∃ (i uk : Nat) (L : List UInt8), iv = .int .i64 ((i : Int) + 1) ∧ uv = .int .u64 (uk : Int) ∧ i ≤ 64 ∧ uk < 18446744073709551616 ∧ L.length = 65 ∧ digs 16 u = digs 16 uk ++ L.drop (i + 1) ∧ Row wr w.heap.size (L.map g8) 52 ∧ Below w.heap.size w wr) (fun _ iv _ => (intOf iv).toNat)
  case atStart => exact ⟨64, u, List.replicate 65 0, rfl, rfl, by omega, HU.out, by simp, by simp, R0.out, B0.out⟩
  case round =>
    obtain ⟨i, uk, L, rfl, rfl, hi, hk, hL, hd, hrow, hbel⟩ := hrel
    clear B0 TH R0
    have hf := hrow.free i
    obtain ⟨x, hc⟩ : ∃ x : Int, wr.cell? ⟨w.heap.size, i, none⟩ = some (.int .u8 x) := ⟨_, by rw [hrow.cell i, List.getElem?_map, List.getElem?_eq_getElem (show i < L.length by omega)]; rfl⟩
    obtain ⟨r, hr⟩ : ∃ r, r = uk % 16 := ⟨_, rfl⟩
    obtain ⟨b, hb⟩ : ∃ b, b = dgc r := ⟨_, rfl⟩
    have hbx : b.toNat < 256 := by have := b.toNat_lt; omega
    have i0 : (0 : Int) ≤ (i : Int) := by omega
    have i1 : (i : Int) ≤ 64 := by omega
    have k0 : (0 : Int) ≤ (uk : Int) := by omega
    have k1 : (uk : Int) < 18446744073709551616 := by omega
    have ROW := Lib.hid (RowG.put hrow i b)
    have KB2 := Lib.hid (KB.put hbel (Nat.le_refl w.heap.size) i (.int .u8 (b.toNat : Int)))
    have HL := Lib.hid hL
    have HD := Lib.hid hd
    have hlt : r < 16 := by omega
    have hix := fun w => idx_dig r hlt w
    rw [← hb] at hix
    by_cases c : uk < 16
    · have hru : r = uk := by omega
      rw [hru] at hix
      have c2 : (uk : Int) < 16 := by omega
      have c3 : ¬ (16 : Int) ≤ (uk : Int) := by omega
      have d3 : decide ((16 : Int) ≤ (uk : Int)) = false := by simp; omega
      have D := Lib.hid (show digs 16 u = (L.set i b).drop i by rw [hd, digs_small c, drop_set L i b (by omega), hb, hru]; rfl)
      obtain ⟨n, hn⟩ : ∃ n, n = 65 - i := ⟨_, rfl⟩
      have hcv := conv_g ROW.out i n (by rw [List.length_set]; omega) n
      have hsl : ∀ W, (Instr.sliceAt 52 (.pointer (some ⟨w.heap.size, 0, none⟩)) (some (.int .i64 (i : Int))) none none).run Tryd.prog W = .ok (.slice (some ⟨w.heap.size, i, none⟩) n n) W := fun W => by
        have hal : Tryd.prog.arrayLen 52 = 65 := by kernel_rfl
        rw [run_sliceAt_array_l W 52 ⟨w.heap.size, 0, none⟩ (by kernel_rfl) .i64 (i : Int) (by omega) (by rw [hal]; omega), hal]
        have e : (Go.sizeOf (Tryd.prog.elem 52)).run Tryd.prog W = .ok 1 W := by kernel_rfl
        rw [e]
        simp only [Result.andThen, slicedAt, Int.toNat_natCast, Lib.add_plain, Nat.mul_one, Nat.zero_add, ← hn]
        rw [if_neg (by omega)]
      obtain ⟨DD, hDD⟩ : ∃ DD, DD = (L.set i b).drop i := ⟨_, rfl⟩
      rw [← hDD] at hcv D
      clear hrow hbel hd hL hb hr hru hlt hk hi c hn hDD hB HU
      go_wp2
      refine bodyPost_ret (v := .tuple #[.slice none 0 0, .string (strL DD)]) (by simp [results, Tryd.results28, go_sem, *]) rfl ⟨by rw [D.out], KB2.out⟩
    · have hand := and15 uk hk
      rw [← hr] at hand
      have c2 : ¬ (uk : Int) < 16 := by omega
      have c3 : (16 : Int) ≤ (uk : Int) := by omega
      have len := digs_len (b := 16) (by omega) 15 u (by have := HU.out; omega)
      have D := Lib.hid (show digs 16 u = digs 16 (uk / 16) ++ (L.set i b).drop i by rw [hd, digs_big c (by omega), drop_set L i b (by omega), hb, hr]; simp)
      have i2 : 1 ≤ i := by
        rw [hd, List.length_append, List.length_drop, digs_big c (by omega), List.length_append] at len
        simp at len
        omega
      have HK := Lib.hid hk
      clear hrow hbel hd hL hb hr hlt hk len hB
      go_wp2
      go_roundw
      case rel => exact ⟨i - 1, uk / 16, L.set i b, by go_num, by go_num, by omega, by have := HK.out; omega, by rw [List.length_set]; exact HL.out, by rw [D.out, show i - 1 + 1 = i by omega], ROW.out, KB2.out⟩
      case measure => simp [intOf]
end Go.Proofs.YteiokenijmaloaaDoor
