/-
  Layer 6, numbers: memories that hold the same have one text, and others not.
-/
import Derived.Test.YtnpgpbcpgniloaaZg
set_option linter.unusedSimpArgs false
set_option linter.unusedVariables false
namespace Go.Proofs.Ytnpgpbcpgniloaa
open GrS
theorem wrL_good {L : List (Int × Int)} {a v : Int} (h : (wrL L a v).2 = 0) : codeA a = 0 := by
  unfold wrL at h
  split at h
  · assumption
  · exact h
theorem fin_good (L : List (Int × Int)) : ∀ p ∈ fin L, codeA p.1 = 0 := fun p hp => by
  by_cases c : ofC L L.length = 0
  · rw [fin_ok c] at hp
    obtain ⟨k, hk, rfl⟩ := List.getElem_of_mem hp
    have z : ∀ m, m ≤ L.length → ofC L m = 0 := fun m hm => by
      by_cases d : ofC L m = 0
      · exact d
      · have := ofC_stay d hm
        omega
    have s := ofC_step (z k (by omega)) hk
    rw [z (k + 1) hk] at s
    exact wrL_good s.symm
  · unfold fin at hp
    rw [if_neg c] at hp
    cases hp
theorem codeA_lt {a : Int} (h : codeA a = 0) : a < 4294967296 := by
  unfold codeA at h
  split at h
  · split at h
    · assumption
    · omega
  · omega
theorem readL_bdz {L : List (Int × Int)} (h : Bd L) (a : Int) : 0 ≤ readL L a ∧ readL L a < 18446744073709551616 := by
  unfold readL
  split
  · rename_i p hp
    exact (h p (List.mem_reverse.1 (List.mem_of_find?_eq_some hp))).2
  · omega
def KBd (U : List (Int × Int)) : Prop := ∀ p ∈ U, (0 ≤ p.1 ∧ p.1 < 4294967296) ∧ 0 ≤ p.2 ∧ p.2 < 18446744073709551616
theorem up_bd {t : Option Tr} {L : List (Int × Int)} (hw : WFO t) (hb : Bd L) (hg : ∀ p ∈ L, codeA p.1 = 0) (hr : RelT t L) : KBd (up (toLO t)) := fun p hp => by
  rw [← cells_tree hw hb hr] at hp
  obtain ⟨_, h2, _⟩ := cellsTo_ok L L.length (Nat.le_refl _)
  obtain ⟨e, _, q, hq, e1⟩ := h2 p hp
  have hq' := List.mem_of_mem_take hq
  have b := hb q hq'
  have g := codeA_lt (hg q hq')
  have r := readL_bdz hb p.1
  rw [e1] at b g
  rw [← e] at r
  exact ⟨⟨b.1.1, g⟩, r⟩
theorem byte_bd (x : Int) (i : Nat) : 0 ≤ byteZ x i ∧ byteZ x i < 256 := by unfold byteZ; omega
theorem keyP_len (p : Int × Int) : (keyP p).length = 12 := by simp [keyP]
theorem keyP_inj {p q : Int × Int} (hp : (0 ≤ p.1 ∧ p.1 < 4294967296) ∧ 0 ≤ p.2 ∧ p.2 < 18446744073709551616) (hq : (0 ≤ q.1 ∧ q.1 < 4294967296) ∧ 0 ≤ q.2 ∧ q.2 < 18446744073709551616) (h : keyP p = keyP q) : p = q := by
  obtain ⟨p1, p2⟩ := p
  obtain ⟨q1, q2⟩ := q
  simp only [keyP, List.range, List.range.loop, List.map_cons, List.map_nil, List.cons_append, List.nil_append, List.cons.injEq, and_true] at h
  obtain ⟨a0, a1, a2, a3, b0, b1, b2, b3, b4, b5, b6, b7⟩ := h
  simp only [byteZ] at a0 a1 a2 a3 b0 b1 b2 b3 b4 b5 b6 b7
  simp only at hp hq
  have e1 : p1 = q1 := by clear b0 b1 b2 b3 b4 b5 b6 b7; omega
  have e2 : p2 = q2 := by clear a0 a1 a2 a3 e1; omega
  rw [e1, e2]
theorem keyL_cons (p : Int × Int) (U : List (Int × Int)) : keyL (p :: U) = keyP p ++ keyL U := by unfold keyL; rw [List.flatMap_cons]
theorem keyL_inj : ∀ {U V : List (Int × Int)}, KBd U → KBd V → keyL U = keyL V → U = V
  | [], [], _, _, _ => rfl
  | [], q :: V, _, _, h => by rw [keyL_cons] at h; have := congrArg List.length h; rw [List.length_append, keyP_len] at this; simp only [keyL, List.flatMap_nil, List.length_nil] at this; omega
  | p :: U, [], _, _, h => by rw [keyL_cons] at h; have := congrArg List.length h; rw [List.length_append, keyP_len] at this; simp only [keyL, List.flatMap_nil, List.length_nil] at this; omega
  | p :: U, q :: V, hu, hv, h => by
    rw [keyL_cons, keyL_cons] at h
    obtain ⟨h1, h2⟩ := List.append_inj h (by rw [keyP_len, keyP_len])
    rw [keyP_inj (hu p (List.mem_cons_self ..)) (hv q (List.mem_cons_self ..)) h1, keyL_inj (fun x hx => hu x (List.mem_cons_of_mem _ hx)) (fun x hx => hv x (List.mem_cons_of_mem _ hx)) h2]
theorem keyL_byte (U : List (Int × Int)) : ∀ b ∈ keyL U, 0 ≤ b ∧ b < 256 := fun b hb => by
  obtain ⟨p, _, hp⟩ := List.mem_flatMap.1 hb
  unfold keyP at hp
  rcases List.mem_append.1 hp with hp | hp
  · obtain ⟨i, _, rfl⟩ := List.mem_map.1 hp; exact byte_bd _ _
  · obtain ⟨i, _, rfl⟩ := List.mem_map.1 hp; exact byte_bd _ _
theorem nums_inj : ∀ {X Y : List Int}, (∀ b ∈ X, 0 ≤ b ∧ b < 256) → (∀ b ∈ Y, 0 ≤ b ∧ b < 256) → (X.map fun n => UInt8.ofNat n.toNat) = (Y.map fun n => UInt8.ofNat n.toNat) → X = Y
  | [], [], _, _, _ => rfl
  | [], _ :: _, _, _, h => by simp at h
  | _ :: _, [], _, _, h => by simp at h
  | x :: X, y :: Y, hx, hy, h => by
    simp only [List.map_cons, List.cons.injEq] at h
    have a := hx x (List.mem_cons_self ..)
    have b := hy y (List.mem_cons_self ..)
    have e := congrArg UInt8.toNat h.1
    simp only [UInt8.toNat_ofNat'] at e
    have e2 : x = y := by omega
    rw [e2, nums_inj (fun z hz => hx z (List.mem_cons_of_mem _ hz)) (fun z hz => hy z (List.mem_cons_of_mem _ hz)) h.2]
theorem key_eq {U V : List (Int × Int)} (hu : KBd U) (hv : KBd V) : strOfNums (keyL U) = strOfNums (keyL V) ↔ U = V := by
  constructor
  · intro h
    have h1 := congrArg (fun s : ByteArray => s.data.toList) h
    simp only [strOfNums_data] at h1
    exact keyL_inj hu hv (nums_inj (keyL_byte U) (keyL_byte V) h1)
  · rintro rfl; rfl
end Go.Proofs.Ytnpgpbcpgniloaa
