/-
  Layer 3, the walks: the page's own Decode.
-/
import Derived.Test.YtnehdgapcgbdeaaDoorMa
import Derived.Test.YtnehdgapcgbdeaaDoorMb
import Derived.Test.YtnehdgapcgbdeaaDoorKe
import Derived.Test.YtnehdgapcgbdeaaDoorBr
set_option linter.unusedSimpArgs false
set_option linter.unusedVariables false
namespace GrI
/-- of an operation and a kind, this word's instruction is found -/
def hit (x op j : Int) : Prop := right (guess op x j) ∧ word (guess op x j) = x
theorem guess_free (op x j j' : Int) (h1 : op ≠ 21) (h2 : op ≠ 23) : guess op x j = guess op x j' := by
  simp [guess, h1, h2]
theorem guess_kind (op x c j : Int) (h : op = 21 ∨ op = 23) : guess op x j = { guess op x c with kind := j } := by
  rcases h with rfl | rfl <;> simp [guess]
/-- no instruction of this word has an operation below -/
def Past (x k : Int) : Prop := ∀ y, right y → word y = x → ¬ y.op < k
theorem past_start (x : Int) : Past x 1 := fun y hr _ h => by have := hr.1; omega
theorem past_end {x : Int} (h : Past x 24) (y : I) (hr : right y) : word y ≠ x := fun hw => h y hr hw (by have := ops hr; omega)
theorem past_next {x k : Int} (h : Past x k) (hm : ∀ j, 0 ≤ j → j < 8 → ¬ hit x k j) : Past x (k + 1) := fun y hr hw hlt => by
  have hk : y.op = k := by
    have := h y hr hw
    omega
  have g := guess_word y hr
  rw [hw, hk] at g
  by_cases c : k = 21 ∨ k = 23
  · have kt := kind_tried y hr
    refine hm y.kind kt.1 ?_ ?_
    · rw [hk] at kt
      rcases c with rfl | rfl
      · simpa [many, tries] using kt.2
      · have : y.kind < 3 := by simpa [many, tries] using kt.2
        omega
    · rw [hit, g]; exact ⟨hr, hw⟩
  · refine hm 0 (by omega) (by omega) ?_
    rw [hit, guess_free k x 0 y.kind (fun e => c (.inl e)) (fun e => c (.inr e)), g]
    exact ⟨hr, hw⟩
theorem miss_next {x k : Int} {j : Nat} (h : ∀ i, 0 ≤ i → i < (j : Int) → ¬ hit x k i) (hj : ¬ hit x k j) : ∀ i, 0 ≤ i → i < ((j + 1 : Nat) : Int) → ¬ hit x k i := fun i h0 h1 => by
  by_cases e : i = j
  · rw [e]; exact hj
  · exact h i h0 (by omega)
end GrI
namespace Go.Proofs.YtnehdgapcgbdeaaDoor
open Go.RowKit
theorem irright_below (x : GrI.I) (w : World) :
    Calls Tryd.prog 11 #[iv x] w fun e w' => e = .returned (.bool (decide (GrI.right x))) ∧ Below w.heap.size w w' :=
  (irright_any x w).mono fun _ _ h => ⟨h.1, h.2 ▸ (Below.refl _ _).alloc (Nat.le_refl _) _⟩
/-- what the rounds keep of the world: the box of the result -/
structure DJ (w wr : World) : Prop where
  cell : ∀ j, j < 6 → wr.cell? ⟨w.heap.size, j, none⟩ = some (.int .i64 0)
  free : ∀ j, wr.frozen? ⟨w.heap.size, j, none⟩ = false
  bel : Below w.heap.size w wr
  lt : w.heap.size < wr.heap.size
theorem DJ.below {w wr w' : World} (h : DJ w wr) (b : Below wr.heap.size wr w') : DJ w w' :=
  ⟨fun j hj => (b.cell (p := ⟨w.heap.size, j, none⟩) h.lt).trans (h.cell j hj), fun j => (b.frozen (p := ⟨w.heap.size, j, none⟩) h.lt).trans (h.free j), h.bel.trans (b.mono (by have := h.lt; omega)), by have := b.size; have := h.lt; omega⟩
theorem DJ.alloc {w wr : World} (h : DJ w wr) (o : Obj) : DJ w (wr.alloc o) := h.below ((Below.refl _ _).alloc (Nat.le_refl _) o)
theorem DJ.start {w : World} (b : Obj) (hb : b = .cells #[.int .i64 0, .int .i64 0, .int .i64 0, .int .i64 0, .int .i64 0, .int .i64 0] 23) : DJ w (w.alloc b) := by
  subst hb
  refine ⟨fun j hj => ?_, fun j => frozen_new j ⟨_, Below.refl _ _⟩, (Below.refl _ _).alloc (Nat.le_refl _) _, by simp⟩
  have : j = 0 ∨ j = 1 ∨ j = 2 ∨ j = 3 ∨ j = 4 ∨ j = 5 := by omega
  rcases this with rfl | rfl | rfl | rfl | rfl | rfl <;> simp [World.cell?_alloc_new]
theorem DJ.store {w wr : World} {B : Nat} (h : DJ w wr) (hB : w.heap.size < B) (i : Nat) (v : Value) : DJ w (wr.setCell ⟨B, i, none⟩ v) := by
  refine ⟨fun j hj => ?_, fun j => ?_, ?_, ?_⟩
  · exact (World.cell?_setCell_other _ _ _ _ (fun e => by have := congrArg Addr.block e; simp at this; omega)).trans (h.cell j hj)
  · rw [World.frozen?_setCell]; exact h.free j
  · exact h.bel.setCell (by simp; omega) _
  · simp; exact h.lt
/-- a box of the rounds' own holds an instruction -/
structure Bx (wr : World) (B : Nat) (g : GrI.I) : Prop where
  c0 : wr.cell? ⟨B, 0, none⟩ = some (.int .i64 g.op)
  c1 : wr.cell? ⟨B, 1, none⟩ = some (.int .i64 g.d)
  c2 : wr.cell? ⟨B, 2, none⟩ = some (.int .i64 g.n)
  c3 : wr.cell? ⟨B, 3, none⟩ = some (.int .i64 g.m)
  c4 : wr.cell? ⟨B, 4, none⟩ = some (.int .i64 g.imm)
  c5 : wr.cell? ⟨B, 5, none⟩ = some (.int .i64 g.kind)
  free : ∀ j, wr.frozen? ⟨B, j, none⟩ = false
theorem Bx.lt {wr : World} {B : Nat} {g : GrI.I} (h : Bx wr B g) : B < wr.heap.size := World.block_lt_of_cell? wr _ h.c0
theorem Bx.below {wr w' : World} {B : Nat} {g : GrI.I} (h : Bx wr B g) (b : Below wr.heap.size wr w') : Bx w' B g :=
  ⟨(b.cell (p := ⟨B, 0, none⟩) h.lt).trans h.c0, (b.cell (p := ⟨B, 1, none⟩) h.lt).trans h.c1, (b.cell (p := ⟨B, 2, none⟩) h.lt).trans h.c2, (b.cell (p := ⟨B, 3, none⟩) h.lt).trans h.c3, (b.cell (p := ⟨B, 4, none⟩) h.lt).trans h.c4, (b.cell (p := ⟨B, 5, none⟩) h.lt).trans h.c5, fun j => (b.frozen (p := ⟨B, j, none⟩) h.lt).trans (h.free j)⟩
theorem Bx.start (w : World) (g : GrI.I) : Bx (w.alloc (ibox g)) w.heap.size g := by
  refine ⟨?_, ?_, ?_, ?_, ?_, ?_, fun j => frozen_new j ⟨_, Below.refl _ _⟩⟩ <;> simp [ibox, World.cell?_alloc_new]
theorem Bx.store {wr : World} {B : Nat} {g : GrI.I} (h : Bx wr B g) (j : Int) : Bx (wr.setCell ⟨B, 5, none⟩ (.int .i64 j)) B { g with kind := j } := by
  obtain ⟨h0, h1, h2, h3, h4, h5, hf⟩ := h
  exact ⟨(World.cell?_setCell_other _ _ _ _ (by simp)).trans h0, (World.cell?_setCell_other _ _ _ _ (by simp)).trans h1, (World.cell?_setCell_other _ _ _ _ (by simp)).trans h2, (World.cell?_setCell_other _ _ _ _ (by simp)).trans h3, (World.cell?_setCell_other _ _ _ _ (by simp)).trans h4, World.cell?_setCell_same _ _ _ h5, fun i => by rw [World.frozen?_setCell]; exact hf i⟩
/-- what the page's Decode hands back -/
def PDecPost (x : Int) (w : World) (e : Ending) (w' : World) : Prop :=
  Below w.heap.size w w' ∧ ((∃ y, GrI.right y ∧ GrI.word y = x ∧ e = .returned (.tuple #[iv y, .bool true])) ∨
    ((∀ y, GrI.right y → GrI.word y ≠ x) ∧ e = .returned (.tuple #[iv GrI.zero, .bool false])))

set_option maxHeartbeats 12800000 in
theorem pdecode_any (x : Int) (w : World) (h0 : 0 ≤ x) (h1 : x < 4294967296) :
    Calls Tryd.prog 15 #[.int .i64 x] w (PDecPost x w) := by
  have D0 := Lib.hid (DJ.start (w := w) _ rfl)
  have X := Lib.hid (And.intro h0 h1)
  clear h0 h1
  go_enter Tryd.func15, Tryd.ntmps15
  go_wp2_with fail
  go_loopw [4] (fun i wr => ∃ k : Nat, 1 ≤ k ∧ k ≤ 24 ∧ i = .int .i64 k ∧ GrI.Past x k ∧ DJ w wr) (fun i _ => 24 - (intOf i).toNat)
  case atStart => exact ⟨1, by omega, by omega, rfl, GrI.past_start x, D0.out⟩
  case round =>
    obtain ⟨k, k0, k1, rfl, hn, hd⟩ := hrel
    have HN := Lib.hid hn
    have HD := Lib.hid hd
    clear hn hd
    by_cases c : k ≤ 23
    · by_cases e21 : k = 21
      · subst e21
        obtain ⟨G0, hG0⟩ : ∃ G, G = GrI.guess 21 x 0 := ⟨_, rfl⟩
        have PG := Lib.hid (show ∀ w, Calls Tryd.prog 28 #[.int .i64 21, .int .i64 x] w fun e w' => e = .returned (.agg #[.int .i64 G0.op, .int .i64 G0.d, .int .i64 G0.n, .int .i64 G0.m, .int .i64 G0.imm, .int .i64 G0.kind]) ∧ Below w.heap.size w w' from fun w => by rw [hG0]; exact pguess_any 21 x w X.out.1 X.out.2 (by omega) (by omega))
        have HG0 := Lib.hid hG0
        clear hG0
        go_wp2_with fail
        refine (PG.out _).mono ?_
        rintro e w1 ⟨rfl, b1⟩
        have HD1 := Lib.hid (HD.out.below b1)
        have HL := Lib.hid (show w.heap.size < w1.heap.size from HD1.out.lt)
        clear b1
        go_wp2_with fail
        obtain ⟨B, hB⟩ : ∃ B, B = w1.heap.size := ⟨_, rfl⟩
        go_loopw [6] (fun i wr => ∃ j : Nat, j ≤ 8 ∧ i = .int .i64 j ∧ (∀ i, 0 ≤ i → i < (j : Int) → ¬ GrI.hit x (21 : Int) i) ∧ DJ w wr ∧ ∃ c, Bx wr w1.heap.size (GrI.guess 21 x c)) (fun i _ => (8 - intOf i).toNat)
        case atStart => exact ⟨0, by omega, rfl, fun i h0 h1 => absurd h1 (by omega), HD1.out.alloc _, ⟨0, by rw [← HG0.out]; exact Bx.start w1 G0⟩⟩
        case round =>
          clear HD
          obtain ⟨j, j1, rfl, hm, hd, c, hb⟩ := hrel
          rw [← hB] at hb
          have HL := Lib.hid (show w.heap.size < B by rw [hB]; exact HL.out)
          have HBe := Lib.hid hB
          rw [← hB]
          clear hB
          by_cases cj : j < 8
          · have HM := Lib.hid hm
            have HD := Lib.hid hd
            have HB := Lib.hid hb
            have v5 := hb.c5
            have u5 := hb.free 5
            clear hm hd hb
            go_upto_region 10 with fail
            obtain ⟨w2, hw2⟩ : ∃ w2, w2 = wr.setCell ⟨B, 5, none⟩ (.int .i64 (j : Int)) := ⟨_, rfl⟩
            rw [← hw2]
            have HD2 := Lib.hid (show DJ w w2 by rw [hw2]; exact HD.out.store HL.out _ _)
            have HB2 := Lib.hid (show Bx w2 B (GrI.guess 21 x j) by rw [hw2, GrI.guess_kind 21 x c j (by decide)]; exact HB.out.store _)
            clear hw2 v5 u5
            obtain ⟨G, hG⟩ : ∃ G, G = GrI.guess 21 x j := ⟨_, rfl⟩
            have HB3 := Lib.hid (show Bx w2 B G by rw [hG]; exact HB2.out)
            have HG := Lib.hid hG
            clear hG HB2 HB HD
            have c0 := HB3.out.c0
            have c1 := HB3.out.c1
            have c2 := HB3.out.c2
            have c3 := HB3.out.c3
            have c4 := HB3.out.c4
            have c5 := HB3.out.c5
            have IR := Lib.hid (show ∀ w, Calls Tryd.prog 11 #[.agg #[.int .i64 G.op, .int .i64 G.d, .int .i64 G.n, .int .i64 G.m, .int .i64 G.imm, .int .i64 G.kind]] w fun e w' => e = .returned (.bool (decide (GrI.right G))) ∧ Below w.heap.size w w' from fun w => irright_below G w)
            cases hR : decide (GrI.right G) with
            | false =>
              have miss := Lib.hid (show ¬ GrI.hit x (21 : Int) j by rw [GrI.hit, ← HG.out]; rintro ⟨hr, _⟩; simp [hr] at hR)
              go_wp2_with (fail)
              refine (IR.out _).mono ?_
              rintro e w3 ⟨rfl, b3⟩
              have HD3 := Lib.hid (HD2.out.below b3)
              have HB4 := Lib.hid (HB3.out.below b3)
              clear b3 c0 c1 c2 c3 c4 c5
              go_wp2
              go_roundw
              case rel => exact ⟨j + 1, by omega, by go_num, GrI.miss_next HM.out miss.out, HD3.out, ⟨j, by rw [← HG.out]; exact HB4.out⟩⟩
              case measure => simp [intOf]; omega
            | true =>
              have hr : GrI.right G := by simpa using hR
              have PW := Lib.hid (show ∀ w, Calls Tryd.prog 13 #[.agg #[.int .i64 G.op, .int .i64 G.d, .int .i64 G.n, .int .i64 G.m, .int .i64 G.imm, .int .i64 G.kind]] w fun e w' => e = .returned (.int .i64 (GrI.word G)) ∧ Below w.heap.size w w' from fun w => pword_any G w hr)
              have HR := Lib.hid hr
              clear hr
              go_wp2_with (fail)
              refine (IR.out _).mono ?_
              rintro e w3 ⟨rfl, b3⟩
              have HD3 := Lib.hid (HD2.out.below b3)
              have HB4 := Lib.hid (HB3.out.below b3)
              clear b3 c0 c1 c2 c3 c4 c5
              have c0 := HB4.out.c0
              have c1 := HB4.out.c1
              have c2 := HB4.out.c2
              have c3 := HB4.out.c3
              have c4 := HB4.out.c4
              have c5 := HB4.out.c5
              go_wp2_with (fail)
              refine (PW.out _).mono ?_
              rintro e w4 ⟨rfl, b4⟩
              have HD4 := Lib.hid (HD3.out.below b4)
              have HB5 := Lib.hid (HB4.out.below b4)
              clear b4 c0 c1 c2 c3 c4 c5
              by_cases hV : GrI.word G = x
              · have HV := Lib.hid hV
                rw [hV]
                clear hV
                have c0 := HB5.out.c0
                have c1 := HB5.out.c1
                have c2 := HB5.out.c2
                have c3 := HB5.out.c3
                have c4 := HB5.out.c4
                have c5 := HB5.out.c5
                have r0 := HD4.out.cell 0 (by decide)
                have r1 := HD4.out.cell 1 (by decide)
                have r2 := HD4.out.cell 2 (by decide)
                have r3 := HD4.out.cell 3 (by decide)
                have r4 := HD4.out.cell 4 (by decide)
                have r5 := HD4.out.cell 5 (by decide)
                have f0 := HD4.out.free 0
                have f1 := HD4.out.free 1
                have f2 := HD4.out.free 2
                have f3 := HD4.out.free 3
                have f4 := HD4.out.free 4
                have f5 := HD4.out.free 5
                go_wp2
                refine bodyPost_ret (v := .tuple #[iv G, .bool true]) (by simp [results, Tryd.results15, go_sem, iv, *]) rfl ⟨?_, .inl ⟨G, HR.out, HV.out, rfl⟩⟩
                repeat' (first | exact HD4.out.bel | (with_reducible refine Below.setCell ?_ ?_ _) | (simp; done) | (simp; omega))
              · have miss := Lib.hid (show ¬ GrI.hit x (21 : Int) j by rw [GrI.hit, ← HG.out]; rintro ⟨_, hw⟩; exact hV hw)
                have hVb : (GrI.word G == x) = false := by simpa using hV
                clear hV
                go_wp2
                go_roundw
                case rel => exact ⟨j + 1, by omega, by go_num, GrI.miss_next HM.out miss.out, HD4.out, ⟨j, by rw [← HG.out]; exact HB5.out⟩⟩
                case measure => simp [intOf]; omega
          · obtain rfl : j = 8 := by omega
            have HM := Lib.hid hm
            have HD := Lib.hid hd
            clear hm hd hb
            go_wp2
            go_roundw
            case rel => exact ⟨22, by omega, by omega, by go_num, GrI.past_next HN.out HM.out, HD.out⟩
            case measure => simp [intOf]
      · by_cases e23 : k = 23
        · subst e23
          obtain ⟨G0, hG0⟩ : ∃ G, G = GrI.guess 23 x 0 := ⟨_, rfl⟩
          have PG := Lib.hid (show ∀ w, Calls Tryd.prog 28 #[.int .i64 23, .int .i64 x] w fun e w' => e = .returned (.agg #[.int .i64 G0.op, .int .i64 G0.d, .int .i64 G0.n, .int .i64 G0.m, .int .i64 G0.imm, .int .i64 G0.kind]) ∧ Below w.heap.size w w' from fun w => by rw [hG0]; exact pguess_any 23 x w X.out.1 X.out.2 (by omega) (by omega))
          have HG0 := Lib.hid hG0
          clear hG0
          go_wp2_with fail
          refine (PG.out _).mono ?_
          rintro e w1 ⟨rfl, b1⟩
          have HD1 := Lib.hid (HD.out.below b1)
          have HL := Lib.hid (show w.heap.size < w1.heap.size from HD1.out.lt)
          clear b1
          go_wp2_with fail
          obtain ⟨B, hB⟩ : ∃ B, B = w1.heap.size := ⟨_, rfl⟩
          go_loopw [6] (fun i wr => ∃ j : Nat, j ≤ 8 ∧ i = .int .i64 j ∧ (∀ i, 0 ≤ i → i < (j : Int) → ¬ GrI.hit x (23 : Int) i) ∧ DJ w wr ∧ ∃ c, Bx wr w1.heap.size (GrI.guess 23 x c)) (fun i _ => (8 - intOf i).toNat)
          case atStart => exact ⟨0, by omega, rfl, fun i h0 h1 => absurd h1 (by omega), HD1.out.alloc _, ⟨0, by rw [← HG0.out]; exact Bx.start w1 G0⟩⟩
          case round =>
            clear HD
            obtain ⟨j, j1, rfl, hm, hd, c, hb⟩ := hrel
            rw [← hB] at hb
            have HL := Lib.hid (show w.heap.size < B by rw [hB]; exact HL.out)
            have HBe := Lib.hid hB
            rw [← hB]
            clear hB
            by_cases cj : j < 8
            · have HM := Lib.hid hm
              have HD := Lib.hid hd
              have HB := Lib.hid hb
              have v5 := hb.c5
              have u5 := hb.free 5
              clear hm hd hb
              go_upto_region 10 with fail
              obtain ⟨w2, hw2⟩ : ∃ w2, w2 = wr.setCell ⟨B, 5, none⟩ (.int .i64 (j : Int)) := ⟨_, rfl⟩
              rw [← hw2]
              have HD2 := Lib.hid (show DJ w w2 by rw [hw2]; exact HD.out.store HL.out _ _)
              have HB2 := Lib.hid (show Bx w2 B (GrI.guess 23 x j) by rw [hw2, GrI.guess_kind 23 x c j (by decide)]; exact HB.out.store _)
              clear hw2 v5 u5
              obtain ⟨G, hG⟩ : ∃ G, G = GrI.guess 23 x j := ⟨_, rfl⟩
              have HB3 := Lib.hid (show Bx w2 B G by rw [hG]; exact HB2.out)
              have HG := Lib.hid hG
              clear hG HB2 HB HD
              have c0 := HB3.out.c0
              have c1 := HB3.out.c1
              have c2 := HB3.out.c2
              have c3 := HB3.out.c3
              have c4 := HB3.out.c4
              have c5 := HB3.out.c5
              have IR := Lib.hid (show ∀ w, Calls Tryd.prog 11 #[.agg #[.int .i64 G.op, .int .i64 G.d, .int .i64 G.n, .int .i64 G.m, .int .i64 G.imm, .int .i64 G.kind]] w fun e w' => e = .returned (.bool (decide (GrI.right G))) ∧ Below w.heap.size w w' from fun w => irright_below G w)
              cases hR : decide (GrI.right G) with
              | false =>
                have miss := Lib.hid (show ¬ GrI.hit x (23 : Int) j by rw [GrI.hit, ← HG.out]; rintro ⟨hr, _⟩; simp [hr] at hR)
                go_wp2_with (fail)
                refine (IR.out _).mono ?_
                rintro e w3 ⟨rfl, b3⟩
                have HD3 := Lib.hid (HD2.out.below b3)
                have HB4 := Lib.hid (HB3.out.below b3)
                clear b3 c0 c1 c2 c3 c4 c5
                go_wp2
                go_roundw
                case rel => exact ⟨j + 1, by omega, by go_num, GrI.miss_next HM.out miss.out, HD3.out, ⟨j, by rw [← HG.out]; exact HB4.out⟩⟩
                case measure => simp [intOf]; omega
              | true =>
                have hr : GrI.right G := by simpa using hR
                have PW := Lib.hid (show ∀ w, Calls Tryd.prog 13 #[.agg #[.int .i64 G.op, .int .i64 G.d, .int .i64 G.n, .int .i64 G.m, .int .i64 G.imm, .int .i64 G.kind]] w fun e w' => e = .returned (.int .i64 (GrI.word G)) ∧ Below w.heap.size w w' from fun w => pword_any G w hr)
                have HR := Lib.hid hr
                clear hr
                go_wp2_with (fail)
                refine (IR.out _).mono ?_
                rintro e w3 ⟨rfl, b3⟩
                have HD3 := Lib.hid (HD2.out.below b3)
                have HB4 := Lib.hid (HB3.out.below b3)
                clear b3 c0 c1 c2 c3 c4 c5
                have c0 := HB4.out.c0
                have c1 := HB4.out.c1
                have c2 := HB4.out.c2
                have c3 := HB4.out.c3
                have c4 := HB4.out.c4
                have c5 := HB4.out.c5
                go_wp2_with (fail)
                refine (PW.out _).mono ?_
                rintro e w4 ⟨rfl, b4⟩
                have HD4 := Lib.hid (HD3.out.below b4)
                have HB5 := Lib.hid (HB4.out.below b4)
                clear b4 c0 c1 c2 c3 c4 c5
                by_cases hV : GrI.word G = x
                · have HV := Lib.hid hV
                  rw [hV]
                  clear hV
                  have c0 := HB5.out.c0
                  have c1 := HB5.out.c1
                  have c2 := HB5.out.c2
                  have c3 := HB5.out.c3
                  have c4 := HB5.out.c4
                  have c5 := HB5.out.c5
                  have r0 := HD4.out.cell 0 (by decide)
                  have r1 := HD4.out.cell 1 (by decide)
                  have r2 := HD4.out.cell 2 (by decide)
                  have r3 := HD4.out.cell 3 (by decide)
                  have r4 := HD4.out.cell 4 (by decide)
                  have r5 := HD4.out.cell 5 (by decide)
                  have f0 := HD4.out.free 0
                  have f1 := HD4.out.free 1
                  have f2 := HD4.out.free 2
                  have f3 := HD4.out.free 3
                  have f4 := HD4.out.free 4
                  have f5 := HD4.out.free 5
                  go_wp2
                  refine bodyPost_ret (v := .tuple #[iv G, .bool true]) (by simp [results, Tryd.results15, go_sem, iv, *]) rfl ⟨?_, .inl ⟨G, HR.out, HV.out, rfl⟩⟩
                  repeat' (first | exact HD4.out.bel | (with_reducible refine Below.setCell ?_ ?_ _) | (simp; done) | (simp; omega))
                · have miss := Lib.hid (show ¬ GrI.hit x (23 : Int) j by rw [GrI.hit, ← HG.out]; rintro ⟨_, hw⟩; exact hV hw)
                  have hVb : (GrI.word G == x) = false := by simpa using hV
                  clear hV
                  go_wp2
                  go_roundw
                  case rel => exact ⟨j + 1, by omega, by go_num, GrI.miss_next HM.out miss.out, HD4.out, ⟨j, by rw [← HG.out]; exact HB5.out⟩⟩
                  case measure => simp [intOf]; omega
            · obtain rfl : j = 8 := by omega
              have HM := Lib.hid hm
              have HD := Lib.hid hd
              clear hm hd hb
              go_wp2
              go_roundw
              case rel => exact ⟨24, by omega, by omega, by go_num, GrI.past_next HN.out HM.out, HD.out⟩
              case measure => simp [intOf]
        · have hk := Lib.hid (show (k : Int) ≠ 21 ∧ (k : Int) ≠ 23 by omega)
          have n21 : ((k : Int) == 21) = false := by simp; omega
          have n23 : ((k : Int) == 23) = false := by simp; omega
          clear e21 e23
          obtain ⟨G0, hG0⟩ : ∃ G, G = GrI.guess k x 0 := ⟨_, rfl⟩
          have PG := Lib.hid (show ∀ w, Calls Tryd.prog 28 #[.int .i64 k, .int .i64 x] w fun e w' => e = .returned (.agg #[.int .i64 G0.op, .int .i64 G0.d, .int .i64 G0.n, .int .i64 G0.m, .int .i64 G0.imm, .int .i64 G0.kind]) ∧ Below w.heap.size w w' from fun w => by rw [hG0]; exact pguess_any k x w X.out.1 X.out.2 (by omega) (by omega))
          have HG0 := Lib.hid hG0
          clear hG0
          go_wp2_with fail
          refine (PG.out _).mono ?_
          rintro e w1 ⟨rfl, b1⟩
          have HD1 := Lib.hid (HD.out.below b1)
          have HL := Lib.hid (show w.heap.size < w1.heap.size from HD1.out.lt)
          clear b1
          go_wp2_with fail
          obtain ⟨B, hB⟩ : ∃ B, B = w1.heap.size := ⟨_, rfl⟩
          go_loopw [6] (fun i wr => ∃ j : Nat, j ≤ 8 ∧ i = .int .i64 j ∧ (∀ i, 0 ≤ i → i < (j : Int) → ¬ GrI.hit x (k : Int) i) ∧ DJ w wr ∧ ∃ c, Bx wr w1.heap.size (GrI.guess k x c)) (fun i _ => (8 - intOf i).toNat)
          case atStart => exact ⟨0, by omega, rfl, fun i h0 h1 => absurd h1 (by omega), HD1.out.alloc _, ⟨0, by rw [← HG0.out]; exact Bx.start w1 G0⟩⟩
          case round =>
            clear HD
            obtain ⟨j, j1, rfl, hm, hd, c, hb⟩ := hrel
            rw [← hB] at hb
            have HL := Lib.hid (show w.heap.size < B by rw [hB]; exact HL.out)
            have HBe := Lib.hid hB
            rw [← hB]
            clear hB
            by_cases cj : j < 8
            · have HM := Lib.hid hm
              have HD := Lib.hid hd
              have HB := Lib.hid hb
              clear hm hd hb
              go_upto_region 10 with fail
              obtain ⟨w2, hw2⟩ : ∃ w2, w2 = wr := ⟨_, rfl⟩
              rw [← hw2]
              have HD2 := Lib.hid (show DJ w w2 by rw [hw2]; exact HD.out)
              have HB2 := Lib.hid (show Bx w2 B (GrI.guess k x j) by rw [hw2, GrI.guess_free k x j c hk.out.1 hk.out.2]; exact HB.out)
              clear hw2
              obtain ⟨G, hG⟩ : ∃ G, G = GrI.guess k x j := ⟨_, rfl⟩
              have HB3 := Lib.hid (show Bx w2 B G by rw [hG]; exact HB2.out)
              have HG := Lib.hid hG
              clear hG HB2 HB HD
              have c0 := HB3.out.c0
              have c1 := HB3.out.c1
              have c2 := HB3.out.c2
              have c3 := HB3.out.c3
              have c4 := HB3.out.c4
              have c5 := HB3.out.c5
              have IR := Lib.hid (show ∀ w, Calls Tryd.prog 11 #[.agg #[.int .i64 G.op, .int .i64 G.d, .int .i64 G.n, .int .i64 G.m, .int .i64 G.imm, .int .i64 G.kind]] w fun e w' => e = .returned (.bool (decide (GrI.right G))) ∧ Below w.heap.size w w' from fun w => irright_below G w)
              cases hR : decide (GrI.right G) with
              | false =>
                have miss := Lib.hid (show ¬ GrI.hit x (k : Int) j by rw [GrI.hit, ← HG.out]; rintro ⟨hr, _⟩; simp [hr] at hR)
                go_wp2_with (fail)
                refine (IR.out _).mono ?_
                rintro e w3 ⟨rfl, b3⟩
                have HD3 := Lib.hid (HD2.out.below b3)
                have HB4 := Lib.hid (HB3.out.below b3)
                clear b3 c0 c1 c2 c3 c4 c5
                go_wp2
                go_roundw
                case rel => exact ⟨j + 1, by omega, by go_num, GrI.miss_next HM.out miss.out, HD3.out, ⟨c, by rw [GrI.guess_free k x c j hk.out.1 hk.out.2, ← HG.out]; exact HB4.out⟩⟩
                case measure => simp [intOf]; omega
              | true =>
                have hr : GrI.right G := by simpa using hR
                have PW := Lib.hid (show ∀ w, Calls Tryd.prog 13 #[.agg #[.int .i64 G.op, .int .i64 G.d, .int .i64 G.n, .int .i64 G.m, .int .i64 G.imm, .int .i64 G.kind]] w fun e w' => e = .returned (.int .i64 (GrI.word G)) ∧ Below w.heap.size w w' from fun w => pword_any G w hr)
                have HR := Lib.hid hr
                clear hr
                go_wp2_with (fail)
                refine (IR.out _).mono ?_
                rintro e w3 ⟨rfl, b3⟩
                have HD3 := Lib.hid (HD2.out.below b3)
                have HB4 := Lib.hid (HB3.out.below b3)
                clear b3 c0 c1 c2 c3 c4 c5
                have c0 := HB4.out.c0
                have c1 := HB4.out.c1
                have c2 := HB4.out.c2
                have c3 := HB4.out.c3
                have c4 := HB4.out.c4
                have c5 := HB4.out.c5
                go_wp2_with (fail)
                refine (PW.out _).mono ?_
                rintro e w4 ⟨rfl, b4⟩
                have HD4 := Lib.hid (HD3.out.below b4)
                have HB5 := Lib.hid (HB4.out.below b4)
                clear b4 c0 c1 c2 c3 c4 c5
                by_cases hV : GrI.word G = x
                · have HV := Lib.hid hV
                  rw [hV]
                  clear hV
                  have c0 := HB5.out.c0
                  have c1 := HB5.out.c1
                  have c2 := HB5.out.c2
                  have c3 := HB5.out.c3
                  have c4 := HB5.out.c4
                  have c5 := HB5.out.c5
                  have r0 := HD4.out.cell 0 (by decide)
                  have r1 := HD4.out.cell 1 (by decide)
                  have r2 := HD4.out.cell 2 (by decide)
                  have r3 := HD4.out.cell 3 (by decide)
                  have r4 := HD4.out.cell 4 (by decide)
                  have r5 := HD4.out.cell 5 (by decide)
                  have f0 := HD4.out.free 0
                  have f1 := HD4.out.free 1
                  have f2 := HD4.out.free 2
                  have f3 := HD4.out.free 3
                  have f4 := HD4.out.free 4
                  have f5 := HD4.out.free 5
                  go_wp2
                  refine bodyPost_ret (v := .tuple #[iv G, .bool true]) (by simp [results, Tryd.results15, go_sem, iv, *]) rfl ⟨?_, .inl ⟨G, HR.out, HV.out, rfl⟩⟩
                  repeat' (first | exact HD4.out.bel | (with_reducible refine Below.setCell ?_ ?_ _) | (simp; done) | (simp; omega))
                · have miss := Lib.hid (show ¬ GrI.hit x (k : Int) j by rw [GrI.hit, ← HG.out]; rintro ⟨_, hw⟩; exact hV hw)
                  have hVb : (GrI.word G == x) = false := by simpa using hV
                  clear hV
                  go_wp2
                  go_roundw
                  case rel => exact ⟨j + 1, by omega, by go_num, GrI.miss_next HM.out miss.out, HD4.out, ⟨c, by rw [GrI.guess_free k x c j hk.out.1 hk.out.2, ← HG.out]; exact HB5.out⟩⟩
                  case measure => simp [intOf]; omega
            · obtain rfl : j = 8 := by omega
              have HM := Lib.hid hm
              have HD := Lib.hid hd
              clear hm hd hb
              go_wp2
              go_roundw
              case rel => exact ⟨k + 1, by omega, by omega, by go_num, GrI.past_next HN.out HM.out, HD.out⟩
              case measure => simp [intOf]; omega
    · obtain rfl : k = 24 := by omega
      have c0 := HD.out.cell 0 (by decide)
      have c1 := HD.out.cell 1 (by decide)
      have c2 := HD.out.cell 2 (by decide)
      have c3 := HD.out.cell 3 (by decide)
      have c4 := HD.out.cell 4 (by decide)
      have c5 := HD.out.cell 5 (by decide)
      have f0 := HD.out.free 0
      have f1 := HD.out.free 1
      have f2 := HD.out.free 2
      have f3 := HD.out.free 3
      have f4 := HD.out.free 4
      have f5 := HD.out.free 5
      go_wp2
      refine bodyPost_ret (v := .tuple #[iv GrI.zero, .bool false]) (by simp [results, Tryd.results15, go_sem, iv, GrI.zero, *]) rfl ⟨?_, .inr ⟨GrI.past_end HN.out, rfl⟩⟩
      repeat' (first | exact HD.out.bel | (with_reducible refine Below.setCell ?_ ?_ _) | (simp; done) | (simp; omega))
end Go.Proofs.YtnehdgapcgbdeaaDoor
