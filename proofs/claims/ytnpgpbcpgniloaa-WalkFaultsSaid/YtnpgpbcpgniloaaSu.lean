/-
  Layer 8, the laws' walks: WalkBeside.
  Layer 8, the page's Walk over a slice of cells.
  Layer 8, the laws' walks: WalkGoes.
-/
import Derived.Test.YtnpgpbcpgniloaaSs
set_option linter.unusedSimpArgs false
set_option linter.unusedVariables false
namespace Go.Proofs.Ytnpgpbcpgniloaa
open Go.RowKit GrS

theorem Bd.app {L : List (Int × Int)} {a x : Int} (h : Bd L) (a0 : 0 ≤ a) (a1 : a < 18446744073709551616) (x0 : 0 ≤ x) (x1 : x < 18446744073709551616) : Bd (L ++ [(a, x)]) := fun p hp => by
  rcases List.mem_append.mp hp with k | k
  · exact h p k
  · obtain rfl := List.mem_singleton.mp k
    exact ⟨⟨a0, a1⟩, x0, x1⟩
theorem walkL_form (R : Int → Int) (hR : ∀ a, 0 ≤ R a ∧ R a < 18446744073709551616) (tb va : Int) (b : Bool) :
    ∃ k l c ad F S n, GrW.walkL R tb va b = [.int .i64 k, .int .i64 l, .bool c, .int .u64 ad, .int .u64 F, .int .u64 S, .int .i64 n] ∧ 0 ≤ F ∧ F < 18446744073709551616 ∧ (GrW.befK va = 0 → F = GrW.wF R tb va) := by
  by_cases h : GrW.befK va = 0
  · refine ⟨_, _, _, _, _, _, _, by unfold GrW.walkL; rw [if_pos h], ?_, ?_, fun _ => rfl⟩
    · unfold GrW.wF; exact (hR _).1
    · unfold GrW.wF; exact (hR _).2
  · exact ⟨_, _, _, _, _, _, _, walkL_no R tb va b h, by omega, by omega, fun k => absurd k h⟩
theorem walkL_beside (L : List (Int × Int)) (tb va ca cv : Int) (b : Bool) (F : Int) (eF : GrW.befK va = 0 → F = GrW.wF (readL L) tb va) (h1 : ca ≠ IntKind.u64.wrap (tb + 8 * GrF.slot va 1)) (h2 : GrW.isTable F = true → ¬ GrW.secondA F va = ca) :
    GrW.walkL (readL (L ++ [(ca, cv)])) tb va b = GrW.walkL (readL L) tb va b := by
  by_cases h : GrW.befK va = 0
  · have e1 : GrW.wF (readL (L ++ [(ca, cv)])) tb va = GrW.wF (readL L) tb va := by
      unfold GrW.wF; rw [readL_app, if_neg h1]
    obtain rfl := eF h
    have e2 : GrW.wS (readL (L ++ [(ca, cv)])) tb va = GrW.wS (readL L) tb va := by
      unfold GrW.wS
      rw [e1]
      by_cases k : GrW.isTable (GrW.wF (readL L) tb va) = true
      · rw [if_pos k, if_pos k, readL_app, if_neg (fun e => h2 k e.symm)]
      · rw [if_neg k, if_neg k]
    have e3 : GrW.wN (readL (L ++ [(ca, cv)])) tb va = GrW.wN (readL L) tb va := by
      unfold GrW.wN; rw [e1]
    unfold GrW.walkL
    rw [e1, e2, e3]
  · rw [walkL_no _ _ _ _ h, walkL_no _ _ _ _ h]

end Go.Proofs.Ytnpgpbcpgniloaa

namespace Go.Proofs.Ytnpgpbcpgniloaa
open Go.RowKit GrS

end Go.Proofs.Ytnpgpbcpgniloaa

namespace Go.Proofs.Ytnpgpbcpgniloaa
open Go.RowKit GrS

set_option maxRecDepth 100000 in
set_option maxHeartbeats 3200000 in
theorem mem_long (a : Addr) (n cp : Nat) (w : World) (c0 : 200 < (n : Int)) :
    Calls Try.prog 15 #[.slice (some a) n cp] w fun e w' => e = .returned (.tuple #[.agg #[.pointer none, .int .i64 0], .bool false]) ∧ Below w.heap.size w w' := by
  have d0 : decide (200 < (n : Int)) = true := by simpa using c0
  clear c0
  go_enter Try.func15, Try.ntmps15
  go_upto_region 1 with fail
  refine to_cls ?_
  intro U hU z
  have r_r : ∀ z : Wb U, Row z.at w.heap.size [.pointer none, .int .i64 0] 38 := Row.next (Row.new _ [.pointer none, .int .i64 0] _) hU
  have bU := Lib.hid (show Below w.heap.size w U from (KB.alloc (Below.refl _ _) _).trans (hU.mono (by simp)))
  clear hU
  obtain ⟨R, hR⟩ : ∃ R, R = w.heap.size := ⟨_, rfl⟩
  rw [← hR] at r_r
  simp only [← hR]
  have wR := Lib.hid (show w.heap.size ≤ R by omega)
  clear hR
  have s0 : ∀ z : Wb U, z.at.cell? ⟨R, 0, none⟩ = some (.pointer none) := fun z => (r_r z).cell 0
  have s1 : ∀ z : Wb U, z.at.cell? ⟨R, 1, none⟩ = some (.int .i64 0) := fun z => (r_r z).cell 1
  have fs : ∀ (z : Wb U) (i : Nat), z.at.frozen? ⟨R, i, none⟩ = false := fun z i => (r_r z).free i
  go_wp2
  refine bodyPost_ret (v := .tuple #[.agg #[.pointer none, .int .i64 0], .bool false]) (by simp [results, Try.results15, go_sem, *]) rfl ⟨rfl, KB.put (KB.put (bU.out.trans (z.bel.mono bU.out.size)) wR.out 0 _) wR.out 1 _⟩
theorem mem_tell (v : Value) (L : List (Int × Int)) (w : World) (h : SlP w v L) (hb : Bd L) :
    Calls Try.prog 15 #[v] w fun e w' => ∃ p m ok t, e = .returned (.tuple #[.agg #[.pointer p, .int .i64 m], .bool ok]) ∧ Below w.heap.size w w' ∧ MAt w' p m t ∧ m ≤ 256 ∧ (ok = true → RelT t L ∧ L.length ≤ 200) := by
  by_cases c : L.length ≤ 200
  · refine (mem_any v L w h hb).mono ?_
    rintro e w1 ⟨p, m, ok, t, h1, h2, h3, h4, h5⟩
    exact ⟨p, m, ok, t, h1, h2, h3, h4, fun k => ⟨h5 k, c⟩⟩
  · have h' := h
    obtain ⟨_, ⟨rfl, h0⟩ | ⟨a, cp, rfl, _⟩⟩ := h'
    · exact absurd (by omega) c
    · refine (mem_long a _ cp w (by omega)).mono ?_
      rintro e w1 ⟨rfl, k⟩
      exact ⟨none, 0, false, none, rfl, k, ⟨rfl, rfl, trivial⟩, by omega, fun e => by cases e⟩

end Go.Proofs.Ytnpgpbcpgniloaa