/-
  Layer 1, the numbers: how many bits a word has, by the masks of bits.OnesCount64.
-/
import Derived.Test.YtjgfnemdklljmaaAa
set_option linter.unusedSimpArgs false
set_option linter.unusedVariables false
namespace GrR
theorem and_split (a A m M : Nat) (ha : a < 256) (hm : m < 256) : (a + 256 * A) &&& (m + 256 * M) = (a &&& m) + 256 * (A &&& M) := by
  have h1 : ((a + 256 * A) &&& (m + 256 * M)) % 2 ^ 8 = a &&& m := by
    rw [Nat.and_mod_two_pow]
    congr 1 <;> omega
  have h2 : ((a + 256 * A) &&& (m + 256 * M)) / 2 ^ 8 = A &&& M := by
    rw [Nat.and_div_two_pow]
    congr 1 <;> omega
  omega
def mk (c : Nat) : Nat → Nat
  | 0 => 0
  | k + 1 => c + 256 * mk c k
def f1 (k x : Nat) : Nat := (x / 2 &&& mk 85 k) + (x &&& mk 85 k)
def f2 (k x : Nat) : Nat := (x / 4 &&& mk 51 k) + (x &&& mk 51 k)
def f3 (k x : Nat) : Nat := (x / 16 + x) &&& mk 15 k
def g1 (b : Nat) : Nat := (b / 2 &&& 85) + (b &&& 85)
def g2 (b : Nat) : Nat := (b / 4 &&& 51) + (b &&& 51)
def g3 (b : Nat) : Nat := (b / 16 + b) &&& 15
def p8 (b : Nat) : Nat := g3 (g2 (g1 b))
theorem d1 : ∀ b : Fin 256, ∀ c : Fin 2, ((b.val / 2 + 128 * c.val) &&& 85) = (b.val / 2 &&& 85) := by decide +kernel
theorem d2 : ∀ b : Fin 256, ∀ c : Fin 4, ((b.val / 4 + 64 * c.val) &&& 51) = (b.val / 4 &&& 51) := by decide +kernel
theorem d3 : ∀ b : Fin 256, ∀ c : Fin 5, g2 (g1 b.val) / 16 + 16 * c.val + g2 (g1 b.val) < 256 ∧ ((g2 (g1 b.val) / 16 + 16 * c.val + g2 (g1 b.val)) &&& 15) = g3 (g2 (g1 b.val)) := by decide +kernel
theorem d4 : ∀ b : Fin 256, g1 b.val < 256 ∧ g2 (g1 b.val) < 256 ∧ g2 (g1 b.val) % 16 ≤ 4 := by decide +kernel
theorem d5 : ∀ b : Fin 256, p8 b.val = (List.range 8).countP b.val.testBit := by decide +kernel
theorem f1_split (k b q : Nat) (hb : b < 256) : f1 (k + 1) (b + 256 * q) = g1 b + 256 * f1 k q := by
  unfold f1 g1
  rw [show mk 85 (k + 1) = 85 + 256 * mk 85 k from rfl, show (b + 256 * q) / 2 = (b / 2 + 128 * (q % 2)) + 256 * (q / 2) by omega, and_split _ _ _ _ (by omega) (by omega), and_split _ _ _ _ hb (by omega), show ((b / 2 + 128 * (q % 2)) &&& 85) = (b / 2 &&& 85) from d1 ⟨b, hb⟩ ⟨q % 2, by omega⟩]
  omega
theorem f2_split (k b q : Nat) (hb : b < 256) : f2 (k + 1) (b + 256 * q) = g2 b + 256 * f2 k q := by
  unfold f2 g2
  rw [show mk 51 (k + 1) = 51 + 256 * mk 51 k from rfl, show (b + 256 * q) / 4 = (b / 4 + 64 * (q % 4)) + 256 * (q / 4) by omega, and_split _ _ _ _ (by omega) (by omega), and_split _ _ _ _ hb (by omega), show ((b / 4 + 64 * (q % 4)) &&& 51) = (b / 4 &&& 51) from d2 ⟨b, hb⟩ ⟨q % 4, by omega⟩]
  omega
theorem f2_low (k q : Nat) : f2 k (f1 k q) % 16 ≤ 4 := by
  cases k with
  | zero => simp [f2, f1, mk]
  | succ k =>
    have hb : q % 256 < 256 := by omega
    obtain ⟨e1, e2, e3⟩ := d4 ⟨q % 256, hb⟩
    simp only at e1 e2 e3
    have : f2 (k + 1) (f1 (k + 1) q) = g2 (g1 (q % 256)) + 256 * f2 k (f1 k (q / 256)) := by
      conv => lhs; rw [show q = q % 256 + 256 * (q / 256) by omega]
      rw [f1_split k _ _ hb, f2_split k _ _ e1]
    omega
theorem f3_split (k b q : Nat) (hb : b < 256) : f3 (k + 1) (f2 (k + 1) (f1 (k + 1) (b + 256 * q))) = p8 b + 256 * f3 k (f2 k (f1 k q)) := by
  obtain ⟨e1, e2, e3⟩ := d4 ⟨b, hb⟩
  have low := f2_low k q
  rw [f1_split k b q hb, f2_split k _ _ e1]
  generalize f2 k (f1 k q) = Q at low
  have e4 := d3 ⟨b, hb⟩ ⟨Q % 16, by omega⟩
  simp only at e2 e4
  unfold p8
  generalize hZ : g2 (g1 b) = Z at e2 e4
  unfold f3
  rw [show mk 15 (k + 1) = 15 + 256 * mk 15 k from rfl, show (Z + 256 * Q) / 16 + (Z + 256 * Q) = (Z / 16 + 16 * (Q % 16) + Z) + 256 * (Q / 16 + Q) by omega, and_split _ _ _ _ e4.1 (by omega), e4.2]
theorem p8_le (b : Nat) (hb : b < 256) : p8 b ≤ 8 := by
  rw [d5 ⟨b, hb⟩]
  have := List.countP_le_length (p := b.testBit) (l := List.range 8)
  simpa using this
theorem cntR_split (k b q : Nat) (hb : b < 256) : cntR (8 + k) (b + 256 * q).testBit = p8 b + cntR k q.testBit := by
  unfold cntR
  rw [List.range_add, List.countP_append, List.countP_map, d5 ⟨b, hb⟩]
  have hlt : ∀ i, i < 8 → (b + 256 * q).testBit i = b.testBit i := fun i hi => by
    have := Nat.testBit_mod_two_pow (b + 256 * q) 8 i
    rw [show (b + 256 * q) % 2 ^ 8 = b by omega] at this
    simp [hi] at this
    exact this.symm
  have hge : ∀ i, (b + 256 * q).testBit (8 + i) = q.testBit i := fun i => by
    have := Nat.testBit_div_two_pow (b + 256 * q) i (n := 8)
    rw [show (b + 256 * q) / 2 ^ 8 = q by omega] at this
    rw [this, Nat.add_comm 8 i]
  congr 1
  · exact List.countP_congr fun i hi => by rw [hlt i (List.mem_range.1 hi)]
  · exact List.countP_congr fun i _ => by simp only [Function.comp]; rw [hge]
/-- after the three masks each byte holds how many bits it had -/
theorem ones_chain (x : Nat) : ∃ p0 p1 p2 p3 p4 p5 p6 p7, p0 ≤ 8 ∧ p1 ≤ 8 ∧ p2 ≤ 8 ∧ p3 ≤ 8 ∧ p4 ≤ 8 ∧ p5 ≤ 8 ∧ p6 ≤ 8 ∧ p7 ≤ 8 ∧
    f3 8 (f2 8 (f1 8 x)) = p0 + 256 * (p1 + 256 * (p2 + 256 * (p3 + 256 * (p4 + 256 * (p5 + 256 * (p6 + 256 * p7)))))) ∧ cntR 64 x.testBit = p0 + p1 + p2 + p3 + p4 + p5 + p6 + p7 := by
  have step : ∀ (k y : Nat), ∃ p q, p ≤ 8 ∧ q = y / 256 ∧ f3 (k + 1) (f2 (k + 1) (f1 (k + 1) y)) = p + 256 * f3 k (f2 k (f1 k q)) ∧ ∀ m, cntR (8 + m) y.testBit = p + cntR m q.testBit := fun k y => by
    have hb : y % 256 < 256 := by omega
    refine ⟨p8 (y % 256), y / 256, p8_le _ hb, rfl, ?_, fun m => ?_⟩
    · conv => lhs; rw [show y = y % 256 + 256 * (y / 256) by omega]
      exact f3_split k _ _ hb
    · conv => lhs; rw [show y = y % 256 + 256 * (y / 256) by omega]
      exact cntR_split m _ _ hb
  obtain ⟨p0, q0, l0, e0, a0, b0⟩ := step 7 x
  obtain ⟨p1, q1, l1, e1, a1, b1⟩ := step 6 q0
  obtain ⟨p2, q2, l2, e2, a2, b2⟩ := step 5 q1
  obtain ⟨p3, q3, l3, e3, a3, b3⟩ := step 4 q2
  obtain ⟨p4, q4, l4, e4, a4, b4⟩ := step 3 q3
  obtain ⟨p5, q5, l5, e5, a5, b5⟩ := step 2 q4
  obtain ⟨p6, q6, l6, e6, a6, b6⟩ := step 1 q5
  obtain ⟨p7, q7, l7, e7, a7, b7⟩ := step 0 q6
  refine ⟨p0, p1, p2, p3, p4, p5, p6, p7, l0, l1, l2, l3, l4, l5, l6, l7, ?_, ?_⟩
  · rw [a0, a1, a2, a3, a4, a5, a6, a7]
    simp [f3, f2, f1, mk]
  · have := b0 56; have := b1 48; have := b2 40; have := b3 32; have := b4 24; have := b5 16; have := b6 8; have := b7 0
    have z : cntR 0 q7.testBit = 0 := by simp [cntR]
    simp only [Nat.reduceAdd] at *
    omega
theorem ones_sum (p0 p1 p2 p3 p4 p5 p6 p7 y3 y4 y5 y6 : Nat) (h0 : p0 ≤ 8) (h1 : p1 ≤ 8) (h2 : p2 ≤ 8) (h3 : p3 ≤ 8) (h4 : p4 ≤ 8) (h5 : p5 ≤ 8) (h6 : p6 ≤ 8) (h7 : p7 ≤ 8)
    (e3 : y3 = p0 + 256 * (p1 + 256 * (p2 + 256 * (p3 + 256 * (p4 + 256 * (p5 + 256 * (p6 + 256 * (p7)))))))) (e4 : y4 = y3 + y3 / 256) (e5 : y5 = y4 + y4 / 65536) (e6 : y6 = y5 + y5 / 4294967296) : y6 % 128 = p0 + p1 + p2 + p3 + p4 + p5 + p6 + p7 := by
  have a1 : y3 / 256 = p1 + 256 * (p2 + 256 * (p3 + 256 * (p4 + 256 * (p5 + 256 * (p6 + 256 * (p7)))))) := by omega
  have a2 : y4 = (p0 + p1) + 256 * ((p1 + p2) + 256 * ((p2 + p3) + 256 * ((p3 + p4) + 256 * ((p4 + p5) + 256 * ((p5 + p6) + 256 * ((p6 + p7) + 256 * (p7))))))) := by omega
  clear a1 e4 e3
  obtain ⟨q, hq⟩ : ∃ q, q = (p2 + p3) + 256 * ((p3 + p4) + 256 * ((p4 + p5) + 256 * ((p5 + p6) + 256 * ((p6 + p7) + 256 * (p7))))) := ⟨_, rfl⟩
  have a3 : y4 / 65536 = q := by
    have : y4 = (p0 + p1) + 256 * ((p1 + p2)) + 65536 * q := by rw [hq]; omega
    omega
  have a4 : y5 = ((p0 + p1) + (p2 + p3)) + 256 * (((p1 + p2) + (p3 + p4)) + 256 * (((p2 + p3) + (p4 + p5)) + 256 * (((p3 + p4) + (p5 + p6)) + 256 * (((p4 + p5) + (p6 + p7)) + 256 * (((p5 + p6) + p7) + 256 * ((p6 + p7) + 256 * (p7))))))) := by omega
  clear a2 a3 e5 hq
  obtain ⟨r, hr⟩ : ∃ r, r = ((p4 + p5) + (p6 + p7)) + 256 * (((p5 + p6) + p7) + 256 * ((p6 + p7) + 256 * (p7))) := ⟨_, rfl⟩
  have a5 : y5 / 4294967296 = r := by
    have : y5 = ((p0 + p1) + (p2 + p3)) + 256 * (((p1 + p2) + (p3 + p4))) + 65536 * (((p2 + p3) + (p4 + p5))) + 16777216 * (((p3 + p4) + (p5 + p6))) + 4294967296 * r := by rw [hr]; omega
    omega
  have a6 : y6 = (((p0 + p1) + (p2 + p3)) + ((p4 + p5) + (p6 + p7))) + 256 * ((((p1 + p2) + (p3 + p4)) + ((p5 + p6) + p7)) + 256 * ((((p2 + p3) + (p4 + p5)) + (p6 + p7)) + 256 * ((((p3 + p4) + (p5 + p6)) + p7) + 256 * (((p4 + p5) + (p6 + p7)) + 256 * (((p5 + p6) + p7) + 256 * ((p6 + p7) + 256 * (p7))))))) := by omega
  have a7 : ∃ m, y6 = (((p0 + p1) + (p2 + p3)) + ((p4 + p5) + (p6 + p7))) + 256 * m := ⟨(((p1 + p2) + (p3 + p4)) + ((p5 + p6) + p7)) + 256 * ((((p2 + p3) + (p4 + p5)) + (p6 + p7)) + 256 * ((((p3 + p4) + (p5 + p6)) + p7) + 256 * (((p4 + p5) + (p6 + p7)) + 256 * (((p5 + p6) + p7) + 256 * ((p6 + p7) + 256 * (p7)))))), a6⟩
  obtain ⟨m, hm⟩ := a7
  omega
end GrR
