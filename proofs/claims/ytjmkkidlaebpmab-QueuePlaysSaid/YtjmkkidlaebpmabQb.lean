/-
  Layer 19, the walks: what a queue has, its room, its length.
-/
import Derived.Test.YtjmkkidlaebpmabQa
set_option linter.unusedSimpArgs false
set_option linter.unusedVariables false
namespace Go.Proofs.Ytjmkkidlaebpmab
open Go.Conc Go.RowKit

/-! ### queues of int -/
theorem ithings_any (q c : Nat) (w : World) (h : Row w q [.chan (some c)] 57) :
    Calls Try.prog 24 #[.pointer (some ⟨q, 0, none⟩)] w fun e w' => e = .returned (.chan (some c)) ∧ w = w' := by
  have h0 := h.cell 0
  simp only [List.getElem?_cons_zero] at h0
  have hl := h.lt
  clear h
  go_enter Try.func24, Try.ntmps24
  go_wp2
  go_ret
  exact ⟨rfl, rfl⟩

theorem ilen_any (q c cap : Nat) (L : List Value) (w : World) (h : Row w q [.chan (some c)] 57) (k : Ch w c cap L) :
    Calls Try.prog 15 #[.pointer (some ⟨q, 0, none⟩)] w fun e w' => e = .returned (.int .i64 (L.length : Int)) ∧ w = w' := by
  have TC := Lib.hid (ithings_any q c w h)
  obtain ⟨s, r, kc⟩ := k
  have hlen := fun ty => run_len_chan (P := Try.prog) 55 ty Try.underlying55 kc
  simp only [List.size_toArray] at hlen
  clear h kc
  go_enter Try.func15, Try.ntmps15
  go_wp2_with fail
  refine TC.out.mono ?_
  rintro e w1 ⟨rfl, rfl⟩
  go_wp2
  go_ret
  exact ⟨rfl, rfl⟩

theorem iroom_any (q c cap : Nat) (L : List Value) (w : World) (h : Row w q [.chan (some c)] 57) (k : Ch w c cap L) :
    Calls Try.prog 23 #[.pointer (some ⟨q, 0, none⟩)] w fun e w' => e = .returned (.int .i64 (cap : Int)) ∧ w = w' := by
  have TC := Lib.hid (ithings_any q c w h)
  obtain ⟨s, r, kc⟩ := k
  have hcap := fun ty => run_cap_chan (P := Try.prog) 55 ty Try.underlying55 kc
  clear h kc
  go_enter Try.func23, Try.ntmps23
  go_wp2_with fail
  refine TC.out.mono ?_
  rintro e w1 ⟨rfl, rfl⟩
  go_wp2
  go_ret
  exact ⟨rfl, rfl⟩

/-! ### queues of string -/
theorem sthings_any (q c : Nat) (w : World) (h : Row w q [.chan (some c)] 61) :
    Calls Try.prog 25 #[.pointer (some ⟨q, 0, none⟩)] w fun e w' => e = .returned (.chan (some c)) ∧ w = w' := by
  have h0 := h.cell 0
  simp only [List.getElem?_cons_zero] at h0
  have hl := h.lt
  clear h
  go_enter Try.func25, Try.ntmps25
  go_wp2
  go_ret
  exact ⟨rfl, rfl⟩

theorem slen_any (q c cap : Nat) (L : List Value) (w : World) (h : Row w q [.chan (some c)] 61) (k : Ch w c cap L) :
    Calls Try.prog 19 #[.pointer (some ⟨q, 0, none⟩)] w fun e w' => e = .returned (.int .i64 (L.length : Int)) ∧ w = w' := by
  have TC := Lib.hid (sthings_any q c w h)
  obtain ⟨s, r, kc⟩ := k
  have hlen := fun ty => run_len_chan (P := Try.prog) 59 ty Try.underlying59 kc
  simp only [List.size_toArray] at hlen
  clear h kc
  go_enter Try.func19, Try.ntmps19
  go_wp2_with fail
  refine TC.out.mono ?_
  rintro e w1 ⟨rfl, rfl⟩
  go_wp2
  go_ret
  exact ⟨rfl, rfl⟩

theorem sroom_any (q c cap : Nat) (L : List Value) (w : World) (h : Row w q [.chan (some c)] 61) (k : Ch w c cap L) :
    Calls Try.prog 18 #[.pointer (some ⟨q, 0, none⟩)] w fun e w' => e = .returned (.int .i64 (cap : Int)) ∧ w = w' := by
  have TC := Lib.hid (sthings_any q c w h)
  obtain ⟨s, r, kc⟩ := k
  have hcap := fun ty => run_cap_chan (P := Try.prog) 59 ty Try.underlying59 kc
  clear h kc
  go_enter Try.func18, Try.ntmps18
  go_wp2_with fail
  refine TC.out.mono ?_
  rintro e w1 ⟨rfl, rfl⟩
  go_wp2
  go_ret
  exact ⟨rfl, rfl⟩
end Go.Proofs.Ytjmkkidlaebpmab
