/-
  Layer 10, the walks: Cut, TrimLeft, TrimRight, Index at the texts that Rows asks for.
-/
import Derived.Test.YtagbhhfflgikkaaDoorEf
import Derived.Shelf.Strings.SlTrimAscii
import Derived.Shelf.Strings.Cut
import Derived.Shelf.Strings.Search3
set_option linter.unusedSimpArgs false
set_option linter.unusedVariables false
namespace Go.Proofs
shelf_lay Lays.n145 Nm 145 at Tryd as Tryd.laysCut
shelf_lay Lays.n161 Nm 161 at Tryd as Tryd.laysTL
shelf_lay Lays.n162 Nm 162 at Tryd as Tryd.laysTR
shelf_lay Lays.n143 Nm 143 at Tryd as Tryd.laysIdx
end Go.Proofs
namespace Go.Proofs.YtagbhhfflgikkaaDoor
open Go.RowKit GrP GrL Go.Shelf

theorem ascii_of {cs : Tx} (h : cs.all (fun b => decide (b.toNat < 128)) = true) : ∀ (j : Nat) b, (strL cs).data.toList[j]? = some b → b.toNat < 128 := by
  intro j b hb
  have hm := List.mem_of_getElem? hb
  simpa using List.all_eq_true.1 h b hm
theorem tl_any (l : Tx) (w : World) : Calls Tryd.prog 21 #[.string (strL l), .string ⟨#[32, 9, 13]⟩] w fun e w' => e = .returned (.string (strL (l.dropWhile blankB))) ∧ Below w.heap.size w w' := by
  have := Any.strings_TrimLeft_laid Tryd.laysTL (by kernel_rfl) (strL l) (strL [32, 9, 13]) w (by decide) (ascii_of (by decide))
  rw [strL_data, strL_data, trimLeft_is] at this
  exact this
theorem tr_any (l : Tx) (w : World) (hl : l.length ≤ 9223372036854775807) : Calls Tryd.prog 22 #[.string (strL l), .string ⟨#[32, 9, 13]⟩] w fun e w' => e = .returned (.string (strL (trimR l))) ∧ Below w.heap.size w w' := by
  have := Any.strings_TrimRight_laid Tryd.laysTR (by kernel_rfl) (strL l) (strL [32, 9, 13]) w (by rw [strL_size]; exact hl) (by decide) (ascii_of (by decide))
  rw [strL_data, strL_data, trimRight_is] at this
  exact this
theorem cut_any (l : Tx) (m : Int) (w : World) (hl : l.length < 4294967281) (hm : w.cell? ⟨0, 0, none⟩ = some (.int .i64 m)) : Calls Tryd.prog 20 #[.string (strL l), .string ⟨#[47, 47]⟩] w fun e w' => (∃ x b, e = .returned (.tuple #[.string (strL (l.take (remark l 0))), .string x, .bool b])) ∧ Below w.heap.size w w' := by
  have := Any.strings_Cut Tryd.laysCut (strL l) (strL [47, 47]) m w (by rw [strL_size]; exact hl) hm
  rw [strL_data, strL_data, cut_remark] at this
  refine this.mono ?_
  rintro e w' ⟨rfl, n, rfl⟩
  exact ⟨⟨_, _, rfl⟩, ⟨(Below.refl w.heap.size w).os, (Below.refl w.heap.size w).tape, (Below.refl w.heap.size w).output, (Below.refl w.heap.size w).size, (Below.refl w.heap.size w).block⟩⟩
theorem idx_any (l : Tx) (w : World) : Calls Tryd.prog 44 #[.string (strL l), .string ⟨#[10]⟩] w fun e w' => e = .returned (.int .i64 (Lib.indexByte l 10)) ∧ w = w' :=
  (Any.strings_Index_one Tryd.laysIdx (strL l) 10 w).mono fun _ _ h => ⟨h.1, h.2.symm⟩
theorem indexByte_tw (c : UInt8) : ∀ l : Tx, Lib.indexByte l c = if (l.takeWhile (· != c)).length < l.length then (((l.takeWhile (· != c)).length : Nat) : Int) else -1
  | [] => rfl
  | b :: l => by
    have ih := indexByte_tw c l
    unfold Lib.indexByte
    by_cases h : b = c
    · subst h; simp
    · have hb : (b == c) = false := by simpa using h
      have hn : (b != c) = true := by simpa using h
      rw [if_neg (by simp [hb]), List.takeWhile_cons, if_pos hn, ih]
      by_cases hl : (l.takeWhile (· != c)).length < l.length
      · rw [if_pos hl, if_neg (by simp), if_pos (by simpa using hl)]
        simp
      · rw [if_neg hl, if_pos (by rfl), if_neg (by simpa using hl)]
/-- the page's table of signs -/
def signT : List (List UInt8) := [[47, 92], [92, 47], [61], [91], [93], [40], [41], [58], [44], [126]]
theorem take_one (c : UInt8) (l : Tx) (b : UInt8) : decide ((c :: l).take 1 = [b]) = (c == b) := by
  rw [Bool.eq_iff_iff]
  simp
theorem sgn_page (c : UInt8) (l : Tx) : ((signT.find? (fun p => decide ((c :: l).take p.length = p))).map List.length).getD 0 = sgn (c :: l) := by
  unfold signT sgn
  simp only [List.find?_cons, List.find?_nil, List.length_cons, List.length_nil, Nat.zero_add, Nat.reduceAdd, take_one]
  by_cases a : (c :: l).take 2 = [47, 92]
  · simp [a]
  · by_cases b : (c :: l).take 2 = [92, 47]
    · simp [a, b]
    · rw [decide_eq_false a, decide_eq_false b, if_neg (by simp only [not_or]; exact ⟨a, b⟩)]
      simp only [List.headD_cons, ones]
      by_cases h1 : c = 61
      · simp [h1]
      · by_cases h2 : c = 91
        · simp [h2]
        · by_cases h3 : c = 93
          · simp [h3]
          · by_cases h4 : c = 40
            · simp [h4]
            · by_cases h5 : c = 41
              · simp [h5]
              · by_cases h6 : c = 58
                · simp [h6]
                · by_cases h7 : c = 44
                  · simp [h7]
                  · by_cases h8 : c = 126
                    · simp [h8]
                    · have e : ∀ b : UInt8, c ≠ b → (c == b) = false := fun b h => by simpa using h
                      rw [e _ h1, e _ h2, e _ h3, e _ h4, e _ h5, e _ h6, e _ h7, e _ h8]
                      simp [h1, h2, h3, h4, h5, h6, h7, h8]
end Go.Proofs.YtagbhhfflgikkaaDoor
