/-
  Layer 19, the walks: lists alike.
-/
import Derived.Test.YtjmkkidlaebpmabQf
set_option linter.unusedSimpArgs false
set_option linter.unusedVariables false
namespace Go.Proofs.Ytjmkkidlaebpmab
open Go.Conc Go.RowKit

theorem SlAt.only {W U : World} {v : Value} {K n c cap : Nat} {xs M : List Value} (h : SlAt W v K n xs) (k : Only c W U) (hc : Ch W c cap M) : SlAt U v K n xs := by
  have no : ∀ (a : Addr) u, W.cell? a = some u → a.block ≠ c := by
    rintro a u hu rfl
    obtain ⟨s, r, hc⟩ := hc
    unfold World.cell? at hu
    rw [hc] at hu
    cases hu
  exact h.keep (fun b u o hu => k.block b (World.block_lt_of_cell? W _ hu) (no _ _ hu)) (fun a u hu => k.block a.block (World.block_lt_of_cell? W _ hu) (no _ _ hu))

set_option maxRecDepth 100000 in
set_option maxHeartbeats 1600000 in
theorem qsame_any (va vb : Value) (L : List Int) (w : World) (ha : SlAt w va 1 L.length (L.map (Value.int .i64))) (hb : SlAt w vb 1 L.length (L.map (Value.int .i64))) (hl : L.length ≤ 400000) :
    Calls Try.prog 12 #[va, vb] w fun e w' => e = .returned (.bool true) ∧ Below w.heap.size w w' := by
  obtain ⟨n, hn⟩ : ∃ n, n = L.length := ⟨_, rfl⟩
  rw [← hn] at ha hb hl
  have HN := Lib.hid hn
  clear hn
  by_cases n0 : n = 0
  · subst n0
    obtain ⟨_, ⟨rfl, _⟩ | ⟨a, ca, rfl, _⟩⟩ := ha <;> obtain ⟨_, ⟨rfl, _⟩ | ⟨b, cb, rfl, _⟩⟩ := hb
    all_goals
      go_enter Try.func12, Try.ntmps12
      go_wp2_with fail
      refine wp_loop_rounds 2 ?_
      rw [rounds_succ]
      go_wp2
      go_ret
      exact ⟨rfl, Below.refl _ _⟩
  · obtain ⟨_, ⟨_, h0⟩ | ⟨a, ca, rfl, hac, ham, hax⟩⟩ := ha
    · exact absurd h0 n0
    obtain ⟨_, ⟨_, h0⟩ | ⟨b, cb, rfl, hbc, hbm, hbx⟩⟩ := hb
    · exact absurd h0 n0
    have AX := Lib.hid hax
    have BX := Lib.hid hbx
    clear hax hbx
    go_enter Try.func12, Try.ntmps12
    go_wp2_with fail
    go_loopw [5] (fun i wr => ∃ k : Nat, k ≤ n ∧ i = .int .i64 k ∧ Below w.heap.size w wr) (fun i _ => n - (intOf i).toNat)
    case atStart => exact ⟨0, by omega, rfl, Below.refl _ _⟩
    case round =>
      obtain ⟨k, hk, rfl, hbel⟩ := hrel
      have HB := Lib.hid hbel
      clear hbel
      by_cases ck : k < n
      · have lk : k < L.length := by rw [← HN.out]; exact ck
        have ca0 := AX.out k (.int .i64 L[k]) (by rw [List.getElem?_map, List.getElem?_eq_getElem lk]; rfl)
        have cb0 := BX.out k (.int .i64 L[k]) (by rw [List.getElem?_map, List.getElem?_eq_getElem lk]; rfl)
        obtain ⟨x, hx⟩ : ∃ x, x = L[k] := ⟨_, rfl⟩
        rw [← hx] at ca0 cb0
        have la := World.block_lt_of_cell? w _ ca0
        have lb := World.block_lt_of_cell? w _ cb0
        have fa : ∀ z : Wb wr, z.at.cell? (a.add k) = some (.int .i64 x) := fun z => ((HB.out.trans (z.bel.mono HB.out.size)).cell (p := a.add k) la).trans ca0
        have fb : ∀ z : Wb wr, z.at.cell? (b.add k) = some (.int .i64 x) := fun z => ((HB.out.trans (z.bel.mono HB.out.size)).cell (p := b.add k) lb).trans cb0
        clear hx lk ca0 cb0 la lb
        go_wp2_with fail
        refine wp_region_wb (by kernel_rfl) (by kernel_rfl) ?_
        repeat (go_big_quiet_step (fail))
        refine wpQuiet_nil ?_
        rintro _ ⟨z, rfl⟩
        go_wp2
        go_roundw
        case rel => exact ⟨k + 1, by omega, by go_num, HB.out.trans (z.bel.mono HB.out.size)⟩
        case measure => simp [intOf]; omega
      · obtain rfl : k = n := by omega
        go_wp2
        go_ret
        exact ⟨rfl, HB.out⟩
end Go.Proofs.Ytjmkkidlaebpmab
