/-
  Layer 2: Parse of the page's own answers, walked.
-/
import Derived.Test.YtgpngjgilcbigaaDoorPv
set_option linter.unusedSimpArgs false
set_option linter.unusedVariables false
namespace Go.Proofs.YtgpngjgilcbigaaDoor
open Go.RowKit

theorem two_bytes {s : ByteArray} (h : s.size = 2) (hx : ((s.extract 0 2).toList == [48, 120]) = true) : GrP.parse s = GrP.body 10 s.data.toList := by
  have e1 : s.data.toList = [48, 120] := by
    have h2 := eq_of_beq hx
    rw [ByteArray.toList_eq] at h2
    have h3 : s.extract 0 2 = s := by
      rw [← h]; exact ByteArray.extract_zero_size
    rw [h3] at h2
    exact h2
  have e2 : (s.extract 2 s.size).data.toList = [] := by
    have : (s.extract 2 s.size).size = 0 := by rw [ByteArray.size_extract]; omega
    apply List.eq_nil_of_length_eq_zero
    simpa using this
  have e3 : GrP.hexB s = true := by rw [GrP.hexB, decide_eq_true (by omega), hx]; rfl
  rw [GrP.parse, if_pos e3, e2, e1]
  decide +kernel

theorem fold_le {B : Nat} (hB : 1 ≤ B) (m : List UInt8) : ∀ a : Nat, a ≤ m.foldl (fun a c => a * B + GrP.digit c.toNat) a := by
  induction m with
  | nil => intro a; exact Nat.le_refl _
  | cons c m ih =>
    intro a
    have h1 : a * 1 ≤ a * B := Nat.mul_le_mul_left _ hB
    have h2 : a ≤ a * B + GrP.digit c.toNat := by omega
    exact Nat.le_trans h2 (ih _)
theorem val_take_le {B : Nat} (hB : 1 ≤ B) (l : List UInt8) (k : Nat) : GrP.val B (l.take k) ≤ GrP.val B l := by
  have e : GrP.val B l = (l.drop k).foldl (fun a c => a * B + GrP.digit c.toNat) (GrP.val B (l.take k)) := by
    conv => lhs; rw [← List.take_append_drop k l]
    unfold GrP.val
    rw [List.foldl_append]
  rw [e]
  exact fold_le hB _ _

/-- the two halves, a digit more -/
theorem halves (V B d : Nat) (hV : V < 18446744073709551616) (hB : B ≤ 16) (hd : d ≤ 99) :
    V % 4294967296 * B + d < 18446744073709551616 ∧ V / 4294967296 * B + (V % 4294967296 * B + d) / 4294967296 < 18446744073709551616 ∧
    (V * B + d) / 4294967296 = V / 4294967296 * B + (V % 4294967296 * B + d) / 4294967296 ∧ (V * B + d) % 4294967296 = (V % 4294967296 * B + d) % 4294967296 := by
  have e : V * B = V / 4294967296 * B * 4294967296 + V % 4294967296 * B := by
    conv => lhs; rw [← Nat.div_add_mod V 4294967296]
    rw [Nat.add_mul, Nat.mul_comm 4294967296, Nat.mul_right_comm]
  have h1 : V % 4294967296 * B ≤ 4294967295 * 16 := Nat.mul_le_mul (by omega) hB
  have h2 : V / 4294967296 * B ≤ 4294967295 * 16 := Nat.mul_le_mul (by omega) hB
  rw [e]
  generalize V / 4294967296 * B = p at *
  generalize V % 4294967296 * B = q at *
  omega

/-- behind the prefix: what is left of the text, and its base (an int here) -/
def RMid (s : ByteArray) (s0 s4 : Value) : Prop :=
  ∃ (u : ByteArray) (B : Nat), s0 = .string u ∧ s4 = .int .i64 (B : Int) ∧ 10 ≤ B ∧ B ≤ 16 ∧ u.size ≤ 9223372036854775807 ∧ GrP.parse s = GrP.body B u.data.toList

def RRel (u : ByteArray) (B : Nat) (v6 v7 v8 : Value) : Prop :=
  ∃ k V : Nat, k ≤ u.size ∧ v8 = .int .i64 (k : Int) ∧ V = GrP.val B (u.data.toList.take k) ∧ V < 18446744073709551616 ∧ v6 = .int .u64 ((V / 4294967296 : Nat) : Int) ∧ v7 = .int .u64 ((V % 4294967296 : Nat) : Int)

def longB (s : ByteArray) : Bool := decide (2 < s.size) && ((s.extract 0 2).toList == [48, 120])

theorem ret_two {a b c d : Int} (h : a = c) (k : b = d) : Ending.returned (.tuple #[.int .u64 a, .int .i64 b]) = .returned (.tuple #[.int .u64 c, .int .i64 d]) := by rw [h, k]

end Go.Proofs.YtgpngjgilcbigaaDoor