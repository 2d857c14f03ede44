/-
  Layer 9, the walks: Takes, FlushOf.
-/
import Derived.Test.YteiokenijmaloaaTd
set_option linter.unusedSimpArgs false
set_option linter.unusedVariables false
namespace Go.Proofs.Yteiokenijmaloaa
open Go.RowKit

set_option maxRecDepth 100000 in
set_option maxHeartbeats 1600000 in
theorem takes_any (k p n sp pg f l : Int) (hf0 : 0 ≤ f) (hf1 : f < 18446744073709551616) (hl0 : 0 ≤ l) (hl1 : l < 18446744073709551616) (hp0 : 0 ≤ p) (hp1 : p < 18446744073709551616) (w : World) :
    Calls Try.prog 17 #[.agg #[.int .i64 k, .int .u64 p, .int .i64 n], .agg #[.int .i64 sp, .int .u64 pg, .int .u64 f, .int .u64 l]] w fun e w' => e = .returned (.bool (GrT.takes k p n ⟨sp, pg, f, l⟩)) ∧ Below w.heap.size w w' := by
  have SV := Lib.hid (fun w => serves_any sp pg f l n p hf0 hf1 hl0 hl1 hp0 hp1 w)
  have CV := Lib.hid (fun w => covers_any sp pg f l p hf0 hf1 hp0 hp1 w)
  have OW := Lib.hid (fun w => own_any sp pg f l hf0 hf1 hl0 hl1 w)
  obtain ⟨S, hS⟩ : ∃ S, S = GrT.serves ⟨sp, pg, f, l⟩ n p := ⟨_, rfl⟩
  obtain ⟨C, hC⟩ : ∃ C, C = GrT.covers ⟨sp, pg, f, l⟩ p := ⟨_, rfl⟩
  obtain ⟨O, hO⟩ : ∃ O, O = GrT.own ⟨sp, pg, f, l⟩ := ⟨_, rfl⟩
  have E := Lib.hid (show GrT.takes k p n ⟨sp, pg, f, l⟩ = if k = 0 then true else if k = 1 then S else if k = 2 then C else if k = 3 then (sp == n) && O else false by rw [hS, hC, hO]; rfl)
  rw [← hS] at SV
  rw [← hC] at CV
  rw [← hO] at OW
  clear hS hC hO hf0 hf1 hl0 hl1 hp0 hp1
  by_cases h0 : k = 0
  · subst h0
    have a0 : ∀ z : Wb ((w.alloc (.cells #[.int .i64 0, .int .u64 p, .int .i64 n] 38)).alloc (.cells #[.int .i64 sp, .int .u64 pg, .int .u64 f, .int .u64 l] 25)), z.at.cell? ⟨w.heap.size, 0, none⟩ = some (.int .i64 0) := fun z => by rw [z.cell _ (by simp; omega)]; simp [World.cell?_alloc_new]
    have a1 : ∀ z : Wb ((w.alloc (.cells #[.int .i64 0, .int .u64 p, .int .i64 n] 38)).alloc (.cells #[.int .i64 sp, .int .u64 pg, .int .u64 f, .int .u64 l] 25)), z.at.cell? ⟨w.heap.size, 1, none⟩ = some (.int .u64 p) := fun z => by rw [z.cell _ (by simp; omega)]; simp [World.cell?_alloc_new]
    have a2 : ∀ z : Wb ((w.alloc (.cells #[.int .i64 0, .int .u64 p, .int .i64 n] 38)).alloc (.cells #[.int .i64 sp, .int .u64 pg, .int .u64 f, .int .u64 l] 25)), z.at.cell? ⟨w.heap.size, 2, none⟩ = some (.int .i64 n) := fun z => by rw [z.cell _ (by simp; omega)]; simp [World.cell?_alloc_new]
    have b0 : ∀ z : Wb ((w.alloc (.cells #[.int .i64 0, .int .u64 p, .int .i64 n] 38)).alloc (.cells #[.int .i64 sp, .int .u64 pg, .int .u64 f, .int .u64 l] 25)), z.at.cell? ⟨w.heap.size + 1, 0, none⟩ = some (.int .i64 sp) := fun z => by rw [z.cell _ (by simp)]; simp [World.cell?_alloc_new]
    have b1 : ∀ z : Wb ((w.alloc (.cells #[.int .i64 0, .int .u64 p, .int .i64 n] 38)).alloc (.cells #[.int .i64 sp, .int .u64 pg, .int .u64 f, .int .u64 l] 25)), z.at.cell? ⟨w.heap.size + 1, 1, none⟩ = some (.int .u64 pg) := fun z => by rw [z.cell _ (by simp)]; simp [World.cell?_alloc_new]
    have b2 : ∀ z : Wb ((w.alloc (.cells #[.int .i64 0, .int .u64 p, .int .i64 n] 38)).alloc (.cells #[.int .i64 sp, .int .u64 pg, .int .u64 f, .int .u64 l] 25)), z.at.cell? ⟨w.heap.size + 1, 2, none⟩ = some (.int .u64 f) := fun z => by rw [z.cell _ (by simp)]; simp [World.cell?_alloc_new]
    have b3 : ∀ z : Wb ((w.alloc (.cells #[.int .i64 0, .int .u64 p, .int .i64 n] 38)).alloc (.cells #[.int .i64 sp, .int .u64 pg, .int .u64 f, .int .u64 l] 25)), z.at.cell? ⟨w.heap.size + 1, 3, none⟩ = some (.int .u64 l) := fun z => by rw [z.cell _ (by simp)]; simp [World.cell?_alloc_new]
    have KB := Lib.hid (fun (z : Wb ((w.alloc (.cells #[.int .i64 0, .int .u64 p, .int .i64 n] 38)).alloc (.cells #[.int .i64 sp, .int .u64 pg, .int .u64 f, .int .u64 l] 25))) => ((((Below.refl _ _).alloc (Nat.le_refl _) _).alloc (by simp) _).trans (z.bel.mono (by simp; omega)) : Below w.heap.size w z.at))
    go_enter Try.func17, Try.ntmps17
    go_wp2
    go_ret
    exact ⟨ret_bool' (by rw [E.out]; simp), (((Below.refl _ _).alloc (Nat.le_refl _) _).alloc (by simp) _)⟩
  by_cases h1 : k = 1
  · subst h1
    have a0 : ∀ z : Wb ((w.alloc (.cells #[.int .i64 1, .int .u64 p, .int .i64 n] 38)).alloc (.cells #[.int .i64 sp, .int .u64 pg, .int .u64 f, .int .u64 l] 25)), z.at.cell? ⟨w.heap.size, 0, none⟩ = some (.int .i64 1) := fun z => by rw [z.cell _ (by simp; omega)]; simp [World.cell?_alloc_new]
    have a1 : ∀ z : Wb ((w.alloc (.cells #[.int .i64 1, .int .u64 p, .int .i64 n] 38)).alloc (.cells #[.int .i64 sp, .int .u64 pg, .int .u64 f, .int .u64 l] 25)), z.at.cell? ⟨w.heap.size, 1, none⟩ = some (.int .u64 p) := fun z => by rw [z.cell _ (by simp; omega)]; simp [World.cell?_alloc_new]
    have a2 : ∀ z : Wb ((w.alloc (.cells #[.int .i64 1, .int .u64 p, .int .i64 n] 38)).alloc (.cells #[.int .i64 sp, .int .u64 pg, .int .u64 f, .int .u64 l] 25)), z.at.cell? ⟨w.heap.size, 2, none⟩ = some (.int .i64 n) := fun z => by rw [z.cell _ (by simp; omega)]; simp [World.cell?_alloc_new]
    have b0 : ∀ z : Wb ((w.alloc (.cells #[.int .i64 1, .int .u64 p, .int .i64 n] 38)).alloc (.cells #[.int .i64 sp, .int .u64 pg, .int .u64 f, .int .u64 l] 25)), z.at.cell? ⟨w.heap.size + 1, 0, none⟩ = some (.int .i64 sp) := fun z => by rw [z.cell _ (by simp)]; simp [World.cell?_alloc_new]
    have b1 : ∀ z : Wb ((w.alloc (.cells #[.int .i64 1, .int .u64 p, .int .i64 n] 38)).alloc (.cells #[.int .i64 sp, .int .u64 pg, .int .u64 f, .int .u64 l] 25)), z.at.cell? ⟨w.heap.size + 1, 1, none⟩ = some (.int .u64 pg) := fun z => by rw [z.cell _ (by simp)]; simp [World.cell?_alloc_new]
    have b2 : ∀ z : Wb ((w.alloc (.cells #[.int .i64 1, .int .u64 p, .int .i64 n] 38)).alloc (.cells #[.int .i64 sp, .int .u64 pg, .int .u64 f, .int .u64 l] 25)), z.at.cell? ⟨w.heap.size + 1, 2, none⟩ = some (.int .u64 f) := fun z => by rw [z.cell _ (by simp)]; simp [World.cell?_alloc_new]
    have b3 : ∀ z : Wb ((w.alloc (.cells #[.int .i64 1, .int .u64 p, .int .i64 n] 38)).alloc (.cells #[.int .i64 sp, .int .u64 pg, .int .u64 f, .int .u64 l] 25)), z.at.cell? ⟨w.heap.size + 1, 3, none⟩ = some (.int .u64 l) := fun z => by rw [z.cell _ (by simp)]; simp [World.cell?_alloc_new]
    have KB := Lib.hid (fun (z : Wb ((w.alloc (.cells #[.int .i64 1, .int .u64 p, .int .i64 n] 38)).alloc (.cells #[.int .i64 sp, .int .u64 pg, .int .u64 f, .int .u64 l] 25))) => ((((Below.refl _ _).alloc (Nat.le_refl _) _).alloc (by simp) _).trans (z.bel.mono (by simp; omega)) : Below w.heap.size w z.at))
    go_enter Try.func17, Try.ntmps17
    go_wp2_with fail
    refine (SV.out _).mono ?_
    rintro e w1 ⟨rfl, g1⟩
    obtain ⟨x0, rfl⟩ := Wb.start g1
    clear g1
    go_wp2
    go_ret
    exact ⟨ret_bool' (by rw [E.out]; simp), KB.out x0⟩
  by_cases h2 : k = 2
  · subst h2
    have a0 : ∀ z : Wb ((w.alloc (.cells #[.int .i64 2, .int .u64 p, .int .i64 n] 38)).alloc (.cells #[.int .i64 sp, .int .u64 pg, .int .u64 f, .int .u64 l] 25)), z.at.cell? ⟨w.heap.size, 0, none⟩ = some (.int .i64 2) := fun z => by rw [z.cell _ (by simp; omega)]; simp [World.cell?_alloc_new]
    have a1 : ∀ z : Wb ((w.alloc (.cells #[.int .i64 2, .int .u64 p, .int .i64 n] 38)).alloc (.cells #[.int .i64 sp, .int .u64 pg, .int .u64 f, .int .u64 l] 25)), z.at.cell? ⟨w.heap.size, 1, none⟩ = some (.int .u64 p) := fun z => by rw [z.cell _ (by simp; omega)]; simp [World.cell?_alloc_new]
    have a2 : ∀ z : Wb ((w.alloc (.cells #[.int .i64 2, .int .u64 p, .int .i64 n] 38)).alloc (.cells #[.int .i64 sp, .int .u64 pg, .int .u64 f, .int .u64 l] 25)), z.at.cell? ⟨w.heap.size, 2, none⟩ = some (.int .i64 n) := fun z => by rw [z.cell _ (by simp; omega)]; simp [World.cell?_alloc_new]
    have b0 : ∀ z : Wb ((w.alloc (.cells #[.int .i64 2, .int .u64 p, .int .i64 n] 38)).alloc (.cells #[.int .i64 sp, .int .u64 pg, .int .u64 f, .int .u64 l] 25)), z.at.cell? ⟨w.heap.size + 1, 0, none⟩ = some (.int .i64 sp) := fun z => by rw [z.cell _ (by simp)]; simp [World.cell?_alloc_new]
    have b1 : ∀ z : Wb ((w.alloc (.cells #[.int .i64 2, .int .u64 p, .int .i64 n] 38)).alloc (.cells #[.int .i64 sp, .int .u64 pg, .int .u64 f, .int .u64 l] 25)), z.at.cell? ⟨w.heap.size + 1, 1, none⟩ = some (.int .u64 pg) := fun z => by rw [z.cell _ (by simp)]; simp [World.cell?_alloc_new]
    have b2 : ∀ z : Wb ((w.alloc (.cells #[.int .i64 2, .int .u64 p, .int .i64 n] 38)).alloc (.cells #[.int .i64 sp, .int .u64 pg, .int .u64 f, .int .u64 l] 25)), z.at.cell? ⟨w.heap.size + 1, 2, none⟩ = some (.int .u64 f) := fun z => by rw [z.cell _ (by simp)]; simp [World.cell?_alloc_new]
    have b3 : ∀ z : Wb ((w.alloc (.cells #[.int .i64 2, .int .u64 p, .int .i64 n] 38)).alloc (.cells #[.int .i64 sp, .int .u64 pg, .int .u64 f, .int .u64 l] 25)), z.at.cell? ⟨w.heap.size + 1, 3, none⟩ = some (.int .u64 l) := fun z => by rw [z.cell _ (by simp)]; simp [World.cell?_alloc_new]
    have KB := Lib.hid (fun (z : Wb ((w.alloc (.cells #[.int .i64 2, .int .u64 p, .int .i64 n] 38)).alloc (.cells #[.int .i64 sp, .int .u64 pg, .int .u64 f, .int .u64 l] 25))) => ((((Below.refl _ _).alloc (Nat.le_refl _) _).alloc (by simp) _).trans (z.bel.mono (by simp; omega)) : Below w.heap.size w z.at))
    go_enter Try.func17, Try.ntmps17
    go_wp2_with fail
    refine (CV.out _).mono ?_
    rintro e w1 ⟨rfl, g1⟩
    obtain ⟨x0, rfl⟩ := Wb.start g1
    clear g1
    go_wp2
    go_ret
    exact ⟨ret_bool' (by rw [E.out]; simp), KB.out x0⟩
  by_cases h3 : k = 3
  · subst h3
    cases c0 : (sp == n) with
    | false =>
      have a0 : ∀ z : Wb ((w.alloc (.cells #[.int .i64 3, .int .u64 p, .int .i64 n] 38)).alloc (.cells #[.int .i64 sp, .int .u64 pg, .int .u64 f, .int .u64 l] 25)), z.at.cell? ⟨w.heap.size, 0, none⟩ = some (.int .i64 3) := fun z => by rw [z.cell _ (by simp; omega)]; simp [World.cell?_alloc_new]
      have a1 : ∀ z : Wb ((w.alloc (.cells #[.int .i64 3, .int .u64 p, .int .i64 n] 38)).alloc (.cells #[.int .i64 sp, .int .u64 pg, .int .u64 f, .int .u64 l] 25)), z.at.cell? ⟨w.heap.size, 1, none⟩ = some (.int .u64 p) := fun z => by rw [z.cell _ (by simp; omega)]; simp [World.cell?_alloc_new]
      have a2 : ∀ z : Wb ((w.alloc (.cells #[.int .i64 3, .int .u64 p, .int .i64 n] 38)).alloc (.cells #[.int .i64 sp, .int .u64 pg, .int .u64 f, .int .u64 l] 25)), z.at.cell? ⟨w.heap.size, 2, none⟩ = some (.int .i64 n) := fun z => by rw [z.cell _ (by simp; omega)]; simp [World.cell?_alloc_new]
      have b0 : ∀ z : Wb ((w.alloc (.cells #[.int .i64 3, .int .u64 p, .int .i64 n] 38)).alloc (.cells #[.int .i64 sp, .int .u64 pg, .int .u64 f, .int .u64 l] 25)), z.at.cell? ⟨w.heap.size + 1, 0, none⟩ = some (.int .i64 sp) := fun z => by rw [z.cell _ (by simp)]; simp [World.cell?_alloc_new]
      have b1 : ∀ z : Wb ((w.alloc (.cells #[.int .i64 3, .int .u64 p, .int .i64 n] 38)).alloc (.cells #[.int .i64 sp, .int .u64 pg, .int .u64 f, .int .u64 l] 25)), z.at.cell? ⟨w.heap.size + 1, 1, none⟩ = some (.int .u64 pg) := fun z => by rw [z.cell _ (by simp)]; simp [World.cell?_alloc_new]
      have b2 : ∀ z : Wb ((w.alloc (.cells #[.int .i64 3, .int .u64 p, .int .i64 n] 38)).alloc (.cells #[.int .i64 sp, .int .u64 pg, .int .u64 f, .int .u64 l] 25)), z.at.cell? ⟨w.heap.size + 1, 2, none⟩ = some (.int .u64 f) := fun z => by rw [z.cell _ (by simp)]; simp [World.cell?_alloc_new]
      have b3 : ∀ z : Wb ((w.alloc (.cells #[.int .i64 3, .int .u64 p, .int .i64 n] 38)).alloc (.cells #[.int .i64 sp, .int .u64 pg, .int .u64 f, .int .u64 l] 25)), z.at.cell? ⟨w.heap.size + 1, 3, none⟩ = some (.int .u64 l) := fun z => by rw [z.cell _ (by simp)]; simp [World.cell?_alloc_new]
      have KB := Lib.hid (fun (z : Wb ((w.alloc (.cells #[.int .i64 3, .int .u64 p, .int .i64 n] 38)).alloc (.cells #[.int .i64 sp, .int .u64 pg, .int .u64 f, .int .u64 l] 25))) => ((((Below.refl _ _).alloc (Nat.le_refl _) _).alloc (by simp) _).trans (z.bel.mono (by simp; omega)) : Below w.heap.size w z.at))
      go_enter Try.func17, Try.ntmps17
      go_wp2
      go_ret
      exact ⟨ret_bool' (by rw [E.out]; simp [c0]), (((Below.refl _ _).alloc (Nat.le_refl _) _).alloc (by simp) _)⟩
    | true =>
      have a0 : ∀ z : Wb ((w.alloc (.cells #[.int .i64 3, .int .u64 p, .int .i64 n] 38)).alloc (.cells #[.int .i64 sp, .int .u64 pg, .int .u64 f, .int .u64 l] 25)), z.at.cell? ⟨w.heap.size, 0, none⟩ = some (.int .i64 3) := fun z => by rw [z.cell _ (by simp; omega)]; simp [World.cell?_alloc_new]
      have a1 : ∀ z : Wb ((w.alloc (.cells #[.int .i64 3, .int .u64 p, .int .i64 n] 38)).alloc (.cells #[.int .i64 sp, .int .u64 pg, .int .u64 f, .int .u64 l] 25)), z.at.cell? ⟨w.heap.size, 1, none⟩ = some (.int .u64 p) := fun z => by rw [z.cell _ (by simp; omega)]; simp [World.cell?_alloc_new]
      have a2 : ∀ z : Wb ((w.alloc (.cells #[.int .i64 3, .int .u64 p, .int .i64 n] 38)).alloc (.cells #[.int .i64 sp, .int .u64 pg, .int .u64 f, .int .u64 l] 25)), z.at.cell? ⟨w.heap.size, 2, none⟩ = some (.int .i64 n) := fun z => by rw [z.cell _ (by simp; omega)]; simp [World.cell?_alloc_new]
      have b0 : ∀ z : Wb ((w.alloc (.cells #[.int .i64 3, .int .u64 p, .int .i64 n] 38)).alloc (.cells #[.int .i64 sp, .int .u64 pg, .int .u64 f, .int .u64 l] 25)), z.at.cell? ⟨w.heap.size + 1, 0, none⟩ = some (.int .i64 sp) := fun z => by rw [z.cell _ (by simp)]; simp [World.cell?_alloc_new]
      have b1 : ∀ z : Wb ((w.alloc (.cells #[.int .i64 3, .int .u64 p, .int .i64 n] 38)).alloc (.cells #[.int .i64 sp, .int .u64 pg, .int .u64 f, .int .u64 l] 25)), z.at.cell? ⟨w.heap.size + 1, 1, none⟩ = some (.int .u64 pg) := fun z => by rw [z.cell _ (by simp)]; simp [World.cell?_alloc_new]
      have b2 : ∀ z : Wb ((w.alloc (.cells #[.int .i64 3, .int .u64 p, .int .i64 n] 38)).alloc (.cells #[.int .i64 sp, .int .u64 pg, .int .u64 f, .int .u64 l] 25)), z.at.cell? ⟨w.heap.size + 1, 2, none⟩ = some (.int .u64 f) := fun z => by rw [z.cell _ (by simp)]; simp [World.cell?_alloc_new]
      have b3 : ∀ z : Wb ((w.alloc (.cells #[.int .i64 3, .int .u64 p, .int .i64 n] 38)).alloc (.cells #[.int .i64 sp, .int .u64 pg, .int .u64 f, .int .u64 l] 25)), z.at.cell? ⟨w.heap.size + 1, 3, none⟩ = some (.int .u64 l) := fun z => by rw [z.cell _ (by simp)]; simp [World.cell?_alloc_new]
      have KB := Lib.hid (fun (z : Wb ((w.alloc (.cells #[.int .i64 3, .int .u64 p, .int .i64 n] 38)).alloc (.cells #[.int .i64 sp, .int .u64 pg, .int .u64 f, .int .u64 l] 25))) => ((((Below.refl _ _).alloc (Nat.le_refl _) _).alloc (by simp) _).trans (z.bel.mono (by simp; omega)) : Below w.heap.size w z.at))
      go_enter Try.func17, Try.ntmps17
      go_wp2_with fail
      refine (OW.out _).mono ?_
      rintro e w1 ⟨rfl, g1⟩
      obtain ⟨x0, rfl⟩ := Wb.start g1
      clear g1
      go_wp2
      go_ret
      exact ⟨ret_bool' (by rw [E.out]; simp [c0]), KB.out x0⟩
  have n0 : (k == 0) = false := by simpa using h0
  have n1 : (k == 1) = false := by simpa using h1
  have n2 : (k == 2) = false := by simpa using h2
  have n3 : (k == 3) = false := by simpa using h3
  have E2 := Lib.hid (show GrT.takes k p n ⟨sp, pg, f, l⟩ = false by rw [E.out, if_neg h0, if_neg h1, if_neg h2, if_neg h3])
  clear h0 h1 h2 h3 E
  go_enter Try.func17, Try.ntmps17
  go_wp2
  go_ret
  exact ⟨ret_bool' (by rw [E2.out]), (((Below.refl _ _).alloc (Nat.le_refl _) _).alloc (by simp) _)⟩

set_option maxRecDepth 100000 in
set_option maxHeartbeats 1600000 in
theorem rtakes_any (k p n sp pg f l : Int) (hf0 : 0 ≤ f) (hf1 : f < 18446744073709551616) (hl0 : 0 ≤ l) (hl1 : l < 18446744073709551616) (hp0 : 0 ≤ p) (hp1 : p < 18446744073709551616) (w : World) :
    Calls Try.prog 42 #[.agg #[.int .i64 k, .int .u64 p, .int .i64 n], .agg #[.int .i64 sp, .int .u64 pg, .int .u64 f, .int .u64 l]] w fun e w' => e = .returned (.bool (GrT.takes k p n ⟨sp, pg, f, l⟩)) ∧ Below w.heap.size w w' := by
  have SV := Lib.hid (fun w => rserves_any sp pg f l n p hf0 hf1 hl0 hl1 hp0 hp1 w)
  have CV := Lib.hid (fun w => rcovers_any sp pg f l p hf0 hf1 hp0 hp1 w)
  have OW := Lib.hid (fun w => rown_any sp pg f l hf0 hf1 hl0 hl1 w)
  obtain ⟨S, hS⟩ : ∃ S, S = GrT.serves ⟨sp, pg, f, l⟩ n p := ⟨_, rfl⟩
  obtain ⟨C, hC⟩ : ∃ C, C = GrT.covers ⟨sp, pg, f, l⟩ p := ⟨_, rfl⟩
  obtain ⟨O, hO⟩ : ∃ O, O = GrT.own ⟨sp, pg, f, l⟩ := ⟨_, rfl⟩
  have E := Lib.hid (show GrT.takes k p n ⟨sp, pg, f, l⟩ = if k = 0 then true else if k = 1 then S else if k = 2 then C else if k = 3 then (sp == n) && O else false by rw [hS, hC, hO]; rfl)
  rw [← hS] at SV
  rw [← hC] at CV
  rw [← hO] at OW
  clear hS hC hO hf0 hf1 hl0 hl1 hp0 hp1
  by_cases h0 : k = 0
  · subst h0
    have a0 : ∀ z : Wb ((w.alloc (.cells #[.int .i64 0, .int .u64 p, .int .i64 n] 38)).alloc (.cells #[.int .i64 sp, .int .u64 pg, .int .u64 f, .int .u64 l] 25)), z.at.cell? ⟨w.heap.size, 0, none⟩ = some (.int .i64 0) := fun z => by rw [z.cell _ (by simp; omega)]; simp [World.cell?_alloc_new]
    have a1 : ∀ z : Wb ((w.alloc (.cells #[.int .i64 0, .int .u64 p, .int .i64 n] 38)).alloc (.cells #[.int .i64 sp, .int .u64 pg, .int .u64 f, .int .u64 l] 25)), z.at.cell? ⟨w.heap.size, 1, none⟩ = some (.int .u64 p) := fun z => by rw [z.cell _ (by simp; omega)]; simp [World.cell?_alloc_new]
    have a2 : ∀ z : Wb ((w.alloc (.cells #[.int .i64 0, .int .u64 p, .int .i64 n] 38)).alloc (.cells #[.int .i64 sp, .int .u64 pg, .int .u64 f, .int .u64 l] 25)), z.at.cell? ⟨w.heap.size, 2, none⟩ = some (.int .i64 n) := fun z => by rw [z.cell _ (by simp; omega)]; simp [World.cell?_alloc_new]
    have b0 : ∀ z : Wb ((w.alloc (.cells #[.int .i64 0, .int .u64 p, .int .i64 n] 38)).alloc (.cells #[.int .i64 sp, .int .u64 pg, .int .u64 f, .int .u64 l] 25)), z.at.cell? ⟨w.heap.size + 1, 0, none⟩ = some (.int .i64 sp) := fun z => by rw [z.cell _ (by simp)]; simp [World.cell?_alloc_new]
    have b1 : ∀ z : Wb ((w.alloc (.cells #[.int .i64 0, .int .u64 p, .int .i64 n] 38)).alloc (.cells #[.int .i64 sp, .int .u64 pg, .int .u64 f, .int .u64 l] 25)), z.at.cell? ⟨w.heap.size + 1, 1, none⟩ = some (.int .u64 pg) := fun z => by rw [z.cell _ (by simp)]; simp [World.cell?_alloc_new]
    have b2 : ∀ z : Wb ((w.alloc (.cells #[.int .i64 0, .int .u64 p, .int .i64 n] 38)).alloc (.cells #[.int .i64 sp, .int .u64 pg, .int .u64 f, .int .u64 l] 25)), z.at.cell? ⟨w.heap.size + 1, 2, none⟩ = some (.int .u64 f) := fun z => by rw [z.cell _ (by simp)]; simp [World.cell?_alloc_new]
    have b3 : ∀ z : Wb ((w.alloc (.cells #[.int .i64 0, .int .u64 p, .int .i64 n] 38)).alloc (.cells #[.int .i64 sp, .int .u64 pg, .int .u64 f, .int .u64 l] 25)), z.at.cell? ⟨w.heap.size + 1, 3, none⟩ = some (.int .u64 l) := fun z => by rw [z.cell _ (by simp)]; simp [World.cell?_alloc_new]
    have KB := Lib.hid (fun (z : Wb ((w.alloc (.cells #[.int .i64 0, .int .u64 p, .int .i64 n] 38)).alloc (.cells #[.int .i64 sp, .int .u64 pg, .int .u64 f, .int .u64 l] 25))) => ((((Below.refl _ _).alloc (Nat.le_refl _) _).alloc (by simp) _).trans (z.bel.mono (by simp; omega)) : Below w.heap.size w z.at))
    go_enter Try.func42, Try.ntmps42
    go_wp2
    go_ret
    exact ⟨ret_bool' (by rw [E.out]; simp), (((Below.refl _ _).alloc (Nat.le_refl _) _).alloc (by simp) _)⟩
  by_cases h1 : k = 1
  · subst h1
    have a0 : ∀ z : Wb ((w.alloc (.cells #[.int .i64 1, .int .u64 p, .int .i64 n] 38)).alloc (.cells #[.int .i64 sp, .int .u64 pg, .int .u64 f, .int .u64 l] 25)), z.at.cell? ⟨w.heap.size, 0, none⟩ = some (.int .i64 1) := fun z => by rw [z.cell _ (by simp; omega)]; simp [World.cell?_alloc_new]
    have a1 : ∀ z : Wb ((w.alloc (.cells #[.int .i64 1, .int .u64 p, .int .i64 n] 38)).alloc (.cells #[.int .i64 sp, .int .u64 pg, .int .u64 f, .int .u64 l] 25)), z.at.cell? ⟨w.heap.size, 1, none⟩ = some (.int .u64 p) := fun z => by rw [z.cell _ (by simp; omega)]; simp [World.cell?_alloc_new]
    have a2 : ∀ z : Wb ((w.alloc (.cells #[.int .i64 1, .int .u64 p, .int .i64 n] 38)).alloc (.cells #[.int .i64 sp, .int .u64 pg, .int .u64 f, .int .u64 l] 25)), z.at.cell? ⟨w.heap.size, 2, none⟩ = some (.int .i64 n) := fun z => by rw [z.cell _ (by simp; omega)]; simp [World.cell?_alloc_new]
    have b0 : ∀ z : Wb ((w.alloc (.cells #[.int .i64 1, .int .u64 p, .int .i64 n] 38)).alloc (.cells #[.int .i64 sp, .int .u64 pg, .int .u64 f, .int .u64 l] 25)), z.at.cell? ⟨w.heap.size + 1, 0, none⟩ = some (.int .i64 sp) := fun z => by rw [z.cell _ (by simp)]; simp [World.cell?_alloc_new]
    have b1 : ∀ z : Wb ((w.alloc (.cells #[.int .i64 1, .int .u64 p, .int .i64 n] 38)).alloc (.cells #[.int .i64 sp, .int .u64 pg, .int .u64 f, .int .u64 l] 25)), z.at.cell? ⟨w.heap.size + 1, 1, none⟩ = some (.int .u64 pg) := fun z => by rw [z.cell _ (by simp)]; simp [World.cell?_alloc_new]
    have b2 : ∀ z : Wb ((w.alloc (.cells #[.int .i64 1, .int .u64 p, .int .i64 n] 38)).alloc (.cells #[.int .i64 sp, .int .u64 pg, .int .u64 f, .int .u64 l] 25)), z.at.cell? ⟨w.heap.size + 1, 2, none⟩ = some (.int .u64 f) := fun z => by rw [z.cell _ (by simp)]; simp [World.cell?_alloc_new]
    have b3 : ∀ z : Wb ((w.alloc (.cells #[.int .i64 1, .int .u64 p, .int .i64 n] 38)).alloc (.cells #[.int .i64 sp, .int .u64 pg, .int .u64 f, .int .u64 l] 25)), z.at.cell? ⟨w.heap.size + 1, 3, none⟩ = some (.int .u64 l) := fun z => by rw [z.cell _ (by simp)]; simp [World.cell?_alloc_new]
    have KB := Lib.hid (fun (z : Wb ((w.alloc (.cells #[.int .i64 1, .int .u64 p, .int .i64 n] 38)).alloc (.cells #[.int .i64 sp, .int .u64 pg, .int .u64 f, .int .u64 l] 25))) => ((((Below.refl _ _).alloc (Nat.le_refl _) _).alloc (by simp) _).trans (z.bel.mono (by simp; omega)) : Below w.heap.size w z.at))
    go_enter Try.func42, Try.ntmps42
    go_wp2_with fail
    refine (SV.out _).mono ?_
    rintro e w1 ⟨rfl, g1⟩
    obtain ⟨x0, rfl⟩ := Wb.start g1
    clear g1
    go_wp2
    go_ret
    exact ⟨ret_bool' (by rw [E.out]; simp), KB.out x0⟩
  by_cases h2 : k = 2
  · subst h2
    have a0 : ∀ z : Wb ((w.alloc (.cells #[.int .i64 2, .int .u64 p, .int .i64 n] 38)).alloc (.cells #[.int .i64 sp, .int .u64 pg, .int .u64 f, .int .u64 l] 25)), z.at.cell? ⟨w.heap.size, 0, none⟩ = some (.int .i64 2) := fun z => by rw [z.cell _ (by simp; omega)]; simp [World.cell?_alloc_new]
    have a1 : ∀ z : Wb ((w.alloc (.cells #[.int .i64 2, .int .u64 p, .int .i64 n] 38)).alloc (.cells #[.int .i64 sp, .int .u64 pg, .int .u64 f, .int .u64 l] 25)), z.at.cell? ⟨w.heap.size, 1, none⟩ = some (.int .u64 p) := fun z => by rw [z.cell _ (by simp; omega)]; simp [World.cell?_alloc_new]
    have a2 : ∀ z : Wb ((w.alloc (.cells #[.int .i64 2, .int .u64 p, .int .i64 n] 38)).alloc (.cells #[.int .i64 sp, .int .u64 pg, .int .u64 f, .int .u64 l] 25)), z.at.cell? ⟨w.heap.size, 2, none⟩ = some (.int .i64 n) := fun z => by rw [z.cell _ (by simp; omega)]; simp [World.cell?_alloc_new]
    have b0 : ∀ z : Wb ((w.alloc (.cells #[.int .i64 2, .int .u64 p, .int .i64 n] 38)).alloc (.cells #[.int .i64 sp, .int .u64 pg, .int .u64 f, .int .u64 l] 25)), z.at.cell? ⟨w.heap.size + 1, 0, none⟩ = some (.int .i64 sp) := fun z => by rw [z.cell _ (by simp)]; simp [World.cell?_alloc_new]
    have b1 : ∀ z : Wb ((w.alloc (.cells #[.int .i64 2, .int .u64 p, .int .i64 n] 38)).alloc (.cells #[.int .i64 sp, .int .u64 pg, .int .u64 f, .int .u64 l] 25)), z.at.cell? ⟨w.heap.size + 1, 1, none⟩ = some (.int .u64 pg) := fun z => by rw [z.cell _ (by simp)]; simp [World.cell?_alloc_new]
    have b2 : ∀ z : Wb ((w.alloc (.cells #[.int .i64 2, .int .u64 p, .int .i64 n] 38)).alloc (.cells #[.int .i64 sp, .int .u64 pg, .int .u64 f, .int .u64 l] 25)), z.at.cell? ⟨w.heap.size + 1, 2, none⟩ = some (.int .u64 f) := fun z => by rw [z.cell _ (by simp)]; simp [World.cell?_alloc_new]
    have b3 : ∀ z : Wb ((w.alloc (.cells #[.int .i64 2, .int .u64 p, .int .i64 n] 38)).alloc (.cells #[.int .i64 sp, .int .u64 pg, .int .u64 f, .int .u64 l] 25)), z.at.cell? ⟨w.heap.size + 1, 3, none⟩ = some (.int .u64 l) := fun z => by rw [z.cell _ (by simp)]; simp [World.cell?_alloc_new]
    have KB := Lib.hid (fun (z : Wb ((w.alloc (.cells #[.int .i64 2, .int .u64 p, .int .i64 n] 38)).alloc (.cells #[.int .i64 sp, .int .u64 pg, .int .u64 f, .int .u64 l] 25))) => ((((Below.refl _ _).alloc (Nat.le_refl _) _).alloc (by simp) _).trans (z.bel.mono (by simp; omega)) : Below w.heap.size w z.at))
    go_enter Try.func42, Try.ntmps42
    go_wp2_with fail
    refine (CV.out _).mono ?_
    rintro e w1 ⟨rfl, g1⟩
    obtain ⟨x0, rfl⟩ := Wb.start g1
    clear g1
    go_wp2
    go_ret
    exact ⟨ret_bool' (by rw [E.out]; simp), KB.out x0⟩
  by_cases h3 : k = 3
  · subst h3
    cases O with
    | false =>
      have a0 : ∀ z : Wb ((w.alloc (.cells #[.int .i64 3, .int .u64 p, .int .i64 n] 38)).alloc (.cells #[.int .i64 sp, .int .u64 pg, .int .u64 f, .int .u64 l] 25)), z.at.cell? ⟨w.heap.size, 0, none⟩ = some (.int .i64 3) := fun z => by rw [z.cell _ (by simp; omega)]; simp [World.cell?_alloc_new]
      have a1 : ∀ z : Wb ((w.alloc (.cells #[.int .i64 3, .int .u64 p, .int .i64 n] 38)).alloc (.cells #[.int .i64 sp, .int .u64 pg, .int .u64 f, .int .u64 l] 25)), z.at.cell? ⟨w.heap.size, 1, none⟩ = some (.int .u64 p) := fun z => by rw [z.cell _ (by simp; omega)]; simp [World.cell?_alloc_new]
      have a2 : ∀ z : Wb ((w.alloc (.cells #[.int .i64 3, .int .u64 p, .int .i64 n] 38)).alloc (.cells #[.int .i64 sp, .int .u64 pg, .int .u64 f, .int .u64 l] 25)), z.at.cell? ⟨w.heap.size, 2, none⟩ = some (.int .i64 n) := fun z => by rw [z.cell _ (by simp; omega)]; simp [World.cell?_alloc_new]
      have b0 : ∀ z : Wb ((w.alloc (.cells #[.int .i64 3, .int .u64 p, .int .i64 n] 38)).alloc (.cells #[.int .i64 sp, .int .u64 pg, .int .u64 f, .int .u64 l] 25)), z.at.cell? ⟨w.heap.size + 1, 0, none⟩ = some (.int .i64 sp) := fun z => by rw [z.cell _ (by simp)]; simp [World.cell?_alloc_new]
      have b1 : ∀ z : Wb ((w.alloc (.cells #[.int .i64 3, .int .u64 p, .int .i64 n] 38)).alloc (.cells #[.int .i64 sp, .int .u64 pg, .int .u64 f, .int .u64 l] 25)), z.at.cell? ⟨w.heap.size + 1, 1, none⟩ = some (.int .u64 pg) := fun z => by rw [z.cell _ (by simp)]; simp [World.cell?_alloc_new]
      have b2 : ∀ z : Wb ((w.alloc (.cells #[.int .i64 3, .int .u64 p, .int .i64 n] 38)).alloc (.cells #[.int .i64 sp, .int .u64 pg, .int .u64 f, .int .u64 l] 25)), z.at.cell? ⟨w.heap.size + 1, 2, none⟩ = some (.int .u64 f) := fun z => by rw [z.cell _ (by simp)]; simp [World.cell?_alloc_new]
      have b3 : ∀ z : Wb ((w.alloc (.cells #[.int .i64 3, .int .u64 p, .int .i64 n] 38)).alloc (.cells #[.int .i64 sp, .int .u64 pg, .int .u64 f, .int .u64 l] 25)), z.at.cell? ⟨w.heap.size + 1, 3, none⟩ = some (.int .u64 l) := fun z => by rw [z.cell _ (by simp)]; simp [World.cell?_alloc_new]
      have KB := Lib.hid (fun (z : Wb ((w.alloc (.cells #[.int .i64 3, .int .u64 p, .int .i64 n] 38)).alloc (.cells #[.int .i64 sp, .int .u64 pg, .int .u64 f, .int .u64 l] 25))) => ((((Below.refl _ _).alloc (Nat.le_refl _) _).alloc (by simp) _).trans (z.bel.mono (by simp; omega)) : Below w.heap.size w z.at))
      go_enter Try.func42, Try.ntmps42
      go_wp2_with fail
      refine (OW.out _).mono ?_
      rintro e w1 ⟨rfl, g1⟩
      obtain ⟨x0, rfl⟩ := Wb.start g1
      clear g1
      go_wp2
      go_ret
      exact ⟨ret_bool' (by rw [E.out]; simp), KB.out x0⟩
    | true =>
      have a0 : ∀ z : Wb ((w.alloc (.cells #[.int .i64 3, .int .u64 p, .int .i64 n] 38)).alloc (.cells #[.int .i64 sp, .int .u64 pg, .int .u64 f, .int .u64 l] 25)), z.at.cell? ⟨w.heap.size, 0, none⟩ = some (.int .i64 3) := fun z => by rw [z.cell _ (by simp; omega)]; simp [World.cell?_alloc_new]
      have a1 : ∀ z : Wb ((w.alloc (.cells #[.int .i64 3, .int .u64 p, .int .i64 n] 38)).alloc (.cells #[.int .i64 sp, .int .u64 pg, .int .u64 f, .int .u64 l] 25)), z.at.cell? ⟨w.heap.size, 1, none⟩ = some (.int .u64 p) := fun z => by rw [z.cell _ (by simp; omega)]; simp [World.cell?_alloc_new]
      have a2 : ∀ z : Wb ((w.alloc (.cells #[.int .i64 3, .int .u64 p, .int .i64 n] 38)).alloc (.cells #[.int .i64 sp, .int .u64 pg, .int .u64 f, .int .u64 l] 25)), z.at.cell? ⟨w.heap.size, 2, none⟩ = some (.int .i64 n) := fun z => by rw [z.cell _ (by simp; omega)]; simp [World.cell?_alloc_new]
      have b0 : ∀ z : Wb ((w.alloc (.cells #[.int .i64 3, .int .u64 p, .int .i64 n] 38)).alloc (.cells #[.int .i64 sp, .int .u64 pg, .int .u64 f, .int .u64 l] 25)), z.at.cell? ⟨w.heap.size + 1, 0, none⟩ = some (.int .i64 sp) := fun z => by rw [z.cell _ (by simp)]; simp [World.cell?_alloc_new]
      have b1 : ∀ z : Wb ((w.alloc (.cells #[.int .i64 3, .int .u64 p, .int .i64 n] 38)).alloc (.cells #[.int .i64 sp, .int .u64 pg, .int .u64 f, .int .u64 l] 25)), z.at.cell? ⟨w.heap.size + 1, 1, none⟩ = some (.int .u64 pg) := fun z => by rw [z.cell _ (by simp)]; simp [World.cell?_alloc_new]
      have b2 : ∀ z : Wb ((w.alloc (.cells #[.int .i64 3, .int .u64 p, .int .i64 n] 38)).alloc (.cells #[.int .i64 sp, .int .u64 pg, .int .u64 f, .int .u64 l] 25)), z.at.cell? ⟨w.heap.size + 1, 2, none⟩ = some (.int .u64 f) := fun z => by rw [z.cell _ (by simp)]; simp [World.cell?_alloc_new]
      have b3 : ∀ z : Wb ((w.alloc (.cells #[.int .i64 3, .int .u64 p, .int .i64 n] 38)).alloc (.cells #[.int .i64 sp, .int .u64 pg, .int .u64 f, .int .u64 l] 25)), z.at.cell? ⟨w.heap.size + 1, 3, none⟩ = some (.int .u64 l) := fun z => by rw [z.cell _ (by simp)]; simp [World.cell?_alloc_new]
      have KB := Lib.hid (fun (z : Wb ((w.alloc (.cells #[.int .i64 3, .int .u64 p, .int .i64 n] 38)).alloc (.cells #[.int .i64 sp, .int .u64 pg, .int .u64 f, .int .u64 l] 25))) => ((((Below.refl _ _).alloc (Nat.le_refl _) _).alloc (by simp) _).trans (z.bel.mono (by simp; omega)) : Below w.heap.size w z.at))
      go_enter Try.func42, Try.ntmps42
      go_wp2_with fail
      refine (OW.out _).mono ?_
      rintro e w1 ⟨rfl, g1⟩
      obtain ⟨x0, rfl⟩ := Wb.start g1
      clear g1
      go_wp2
      go_ret
      exact ⟨ret_bool' (by rw [E.out]; simp), KB.out x0⟩
  have n0 : (k == 0) = false := by simpa using h0
  have n1 : (k == 1) = false := by simpa using h1
  have n2 : (k == 2) = false := by simpa using h2
  have n3 : (k == 3) = false := by simpa using h3
  have E2 := Lib.hid (show GrT.takes k p n ⟨sp, pg, f, l⟩ = false by rw [E.out, if_neg h0, if_neg h1, if_neg h2, if_neg h3])
  clear h0 h1 h2 h3 E
  go_enter Try.func42, Try.ntmps42
  go_wp2
  go_ret
  exact ⟨ret_bool' (by rw [E2.out]), (((Below.refl _ _).alloc (Nat.le_refl _) _).alloc (by simp) _)⟩

end Go.Proofs.Yteiokenijmaloaa
