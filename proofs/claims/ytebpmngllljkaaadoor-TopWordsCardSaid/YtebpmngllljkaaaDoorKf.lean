/-
  Layer 3, Decode: numbers; what the rounds keep.
  Layer 3, the code's walks: Decode.
-/
import Derived.Test.YtebpmngllljkaaaDoorJo
import Derived.Test.YtebpmngllljkaaaDoorBr
import Derived.Test.YtebpmngllljkaaaDoorRy
import Derived.Test.YtebpmngllljkaaaDoorBv
set_option linter.unusedSimpArgs false
set_option linter.unusedVariables false
namespace GrI
/-- what the code takes a word for, of an operation and a kind -/
def gC (op w kind : Int) : I := ⟨op, (guess op w kind).d, (guess op w kind).n, (guess op w kind).m, (guess op w kind).imm, kind⟩
theorem gC_word (x : I) (h : right x) : gC x.op (word x) x.kind = x := by
  rw [gC, guess_word x h]
/-- how many kinds are tried of an operation -/
def tries (op : Int) : Int := if op = 6 then 4 else if op = 17 then 2 else if op = 18 ∨ op = 19 then 16 else if op = 21 then 8 else if op = 23 then 3 else 0
def many (op : Int) : Int := if tries op < 1 then 1 else tries op
theorem many_pos (op : Int) : 1 ≤ many op := by unfold many; split <;> omega
theorem kind_tried (y : I) (h : right y) : 0 ≤ y.kind ∧ y.kind < many y.op := by
  obtain ⟨op, d, n, m, imm, kind⟩ := y
  have ho := ops h
  simp only at ho
  rcases ho with rfl | rfl | rfl | rfl | rfl | rfl | rfl | rfl | rfl | rfl | rfl | rfl | rfl | rfl | rfl | rfl | rfl | rfl | rfl | rfl | rfl | rfl | rfl
  all_goals
    simp [right, parts, nums] at h
    simp [many, tries]
    try omega
/-- no instruction of this word has been passed over -/
def None (x k j : Int) : Prop := ∀ y, right y → word y = x → ¬ (y.op < k ∨ (y.op = k ∧ y.kind < j))
theorem none_start (x : Int) : None x 1 0 := fun y hr _ h => by
  have ho := ops hr
  have hk := (kind_tried y hr).1
  omega
theorem none_next {x k j : Int} (h : None x k j) (hno : ¬ (right (gC k x j) ∧ word (gC k x j) = x)) : None x k (j + 1) := fun y hr hw hc => by
  by_cases e : y.op = k ∧ y.kind = j
  · have g := gC_word y hr
    rw [hw, e.1, e.2] at g
    rw [g] at hno
    exact hno ⟨hr, hw⟩
  · exact h y hr hw (by omega)
theorem none_row {x k : Int} (h : None x k (many k)) : None x (k + 1) 0 := fun y hr hw hc => by
  have hk := kind_tried y hr
  refine h y hr hw ?_
  by_cases e : y.op = k
  · rw [e] at hk; exact .inr ⟨e, hk.2⟩
  · exact .inl (by omega)
theorem none_end {x : Int} (h : None x 24 0) (y : I) (hr : right y) : word y ≠ x := fun hw => h y hr hw (.inl (by have := ops hr; omega))
theorem gC_imm (x op kind : Int) (h0 : 0 ≤ x) (h1 : x < 4294967296) : -9223372036854775808 ≤ (gC op x kind).imm ∧ (gC op x kind).imm ≤ 9223372036854775807 := by
  simp only [gC, guess, sign]
  repeat' split
  all_goals omega
end GrI
namespace Go.Proofs.YtebpmngllljkaaaDoor
open Go.RowKit
/-- what the rounds of Decode keep of the world: the table, the box of the result -/
structure DI (w wr : World) : Prop where
  sh : ShAt wr
  cell : ∀ j, j < 6 → wr.cell? ⟨w.heap.size, j, none⟩ = some (.int .i64 0)
  free : ∀ j, wr.frozen? ⟨w.heap.size, j, none⟩ = false
  bel : Below w.heap.size w wr
  lt : w.heap.size < wr.heap.size
theorem DI.below {w wr w' : World} (h : DI w wr) (b : Below wr.heap.size wr w') : DI w w' :=
  ⟨h.sh.below b, fun j hj => (b.cell (p := ⟨w.heap.size, j, none⟩) h.lt).trans (h.cell j hj), fun j => (b.frozen (p := ⟨w.heap.size, j, none⟩) h.lt).trans (h.free j), h.bel.trans (b.mono (by have := h.lt; omega)), by have := b.size; have := h.lt; omega⟩
theorem DI.alloc {w wr : World} (h : DI w wr) (o : Obj) : DI w (wr.alloc o) := h.below ((Below.refl _ _).alloc (Nat.le_refl _) o)
theorem DI.start {w : World} (hs : ShAt w) (b : Obj) (hb : b = .cells #[.int .i64 0, .int .i64 0, .int .i64 0, .int .i64 0, .int .i64 0, .int .i64 0] 23) : DI w (w.alloc b) := by
  subst hb
  refine ⟨hs.alloc _, fun j hj => ?_, fun j => frozen_new j ⟨_, Below.refl _ _⟩, (Below.refl _ _).alloc (Nat.le_refl _) _, by simp⟩
  have : j = 0 ∨ j = 1 ∨ j = 2 ∨ j = 3 ∨ j = 4 ∨ j = 5 := by omega
  rcases this with rfl | rfl | rfl | rfl | rfl | rfl <;> simp [World.cell?_alloc_new]
theorem kinds_cell (k : Nat) (h0 : 1 ≤ k) (h1 : k ≤ 23) : shapeCells.getD (k * 9 + 7) undef = .int .i64 (GrI.tries k) := by
  have h : k = 1 ∨ k = 2 ∨ k = 3 ∨ k = 4 ∨ k = 5 ∨ k = 6 ∨ k = 7 ∨ k = 8 ∨ k = 9 ∨ k = 10 ∨ k = 11 ∨ k = 12 ∨ k = 13 ∨ k = 14 ∨ k = 15 ∨ k = 16 ∨ k = 17 ∨ k = 18 ∨ k = 19 ∨ k = 20 ∨ k = 21 ∨ k = 22 ∨ k = 23 := by omega
  rcases h with rfl | rfl | rfl | rfl | rfl | rfl | rfl | rfl | rfl | rfl | rfl | rfl | rfl | rfl | rfl | rfl | rfl | rfl | rfl | rfl | rfl | rfl | rfl <;> rfl
end Go.Proofs.YtebpmngllljkaaaDoor

namespace GrI
theorem tries_le (op : Int) : tries op ≤ 16 := by
  unfold tries
  repeat' split
  all_goals omega
end GrI
namespace Go.Proofs.YtebpmngllljkaaaDoor
open Go.RowKit

/-- what Decode hands back -/
def DecPost (x : Int) (w : World) (e : Ending) (w' : World) : Prop :=
  Below w.heap.size w w' ∧ ((∃ y, GrI.right y ∧ GrI.word y = x ∧ e = .returned (.tuple #[iv y, .int .i64 0])) ∨
    ((∀ y, GrI.right y → GrI.word y ≠ x) ∧ e = .returned (.tuple #[iv GrI.zero, .int .i64 31])))
def GuessSays (x : Int) : Prop := ∀ op kind w, ShAt w → 1 ≤ op → op ≤ 23 → Calls Tryd.prog 38 #[.int .u32 x, .int .i64 op, .int .i64 kind] w fun e w' => e = .returned (.agg #[.int .i64 (GrI.gC op x kind).op, .int .i64 (GrI.gC op x kind).d, .int .i64 (GrI.gC op x kind).n, .int .i64 (GrI.gC op x kind).m, .int .i64 (GrI.gC op x kind).imm, .int .i64 (GrI.gC op x kind).kind]) ∧ Below w.heap.size w w'

set_option maxHeartbeats 12800000 in
theorem xdecode_of (x : Int) (w : World) (hs : ShAt w) (h0 : 0 ≤ x) (h1 : x < 4294967296) (GU : GuessSays x) :
    Calls Tryd.prog 19 #[.int .u32 x] w (DecPost x w) := by
  have GU := Lib.hid GU
  have D0 := Lib.hid (DI.start hs _ rfl)
  have X := Lib.hid (And.intro h0 h1)
  clear hs h0 h1
  go_enter Tryd.func19, Tryd.ntmps19
  go_wp2_with fail
  go_loopw [4] (fun i wr => ∃ k : Nat, 1 ≤ k ∧ k ≤ 24 ∧ i = .int .i64 k ∧ GrI.None x k 0 ∧ DI w wr) (fun i _ => 24 - (intOf i).toNat)
  case atStart => exact ⟨1, by omega, by omega, rfl, GrI.none_start x, D0.out⟩
  case round =>
    obtain ⟨k, k0, k1, rfl, hn, hd⟩ := hrel
    by_cases c : k ≤ 23
    · have e7 : wr.cell? ⟨5, k * 9 + 7, none⟩ = some (.int .i64 (GrI.tries k)) := by rw [hd.sh (k * 9 + 7) (by omega), kinds_cell k k0 c]
      have HN := Lib.hid hn
      have HD := Lib.hid hd
      clear hn hd
      by_cases t : 1 ≤ GrI.tries k
      · have HM := Lib.hid (show GrI.many k = GrI.tries k by unfold GrI.many; rw [if_neg (by omega)])
        have tb := GrI.tries_le k
        obtain ⟨M, hM⟩ : ∃ M, M = GrI.tries k := ⟨_, rfl⟩
        rw [← hM] at e7 t HM tb
        clear hM
        have ck : decide ((k : Int) ≤ 23) = true := by simp; omega
        go_upto_region 5 with fail
        go_loopw [18] (fun i wr => ∃ j : Nat, (j : Int) ≤ M ∧ i = .int .i64 j ∧ GrI.None x k j ∧ DI w wr) (fun i _ => (M - intOf i).toNat)
        case atStart => exact ⟨0, by omega, rfl, HN.out, HD.out⟩
        case round =>
          clear HN HD
          obtain ⟨j, j1, rfl, hn, hd⟩ := hrel
          by_cases cj : (j : Int) < M
          · have HN := Lib.hid hn
            have HD := Lib.hid hd
            clear hn hd
            obtain ⟨G, hG⟩ : ∃ G, G = GrI.gC k x j := ⟨_, rfl⟩
            have gb := GrI.gC_imm x k j X.out.1 X.out.2
            have GU1 := GU.out k j wr HD.out.sh (by omega) (by omega)
            rw [← hG] at gb GU1
            have hop : G.op = k := by rw [hG]; rfl
            have EN := Lib.hid (fun w hs => xenc_any G.op G.d G.n G.m G.imm G.kind w hs (by omega) (by omega) gb.1 gb.2)
            have HG := Lib.hid hG
            have HO := Lib.hid hop
            clear hG hop gb
            have GU2 := Lib.hid GU1
            clear GU1
            go_upto_region 7 with fail
            go_wp2_with fail
            refine GU2.out.mono ?_
            rintro e w1 ⟨rfl, b1⟩
            have HD1 := Lib.hid (HD.out.below b1)
            clear b1
            go_wp2_with fail
            refine (EN.out _ (HD1.out.alloc _).sh).mono ?_
            rintro e w2 ⟨rfl, b2⟩
            have HD2 := Lib.hid ((HD1.out.alloc _).below b2)
            cases hB : encB G with
            | false =>
              have miss : ¬ (GrI.right (GrI.gC k x j) ∧ GrI.word (GrI.gC k x j) = x) := by
                rw [← HG.out]; rintro ⟨hr, _⟩; simp [encB, hr] at hB
              have HX := Lib.hid miss
              have e30 : GrI.code (encB G) = 30 := by rw [hB]; rfl
              rw [show GrI.code false = 30 from rfl]
              clear miss b2
              go_wp2
              go_roundw
              case rel => exact ⟨j + 1, by omega, by go_num, GrI.none_next HN.out HX.out, HD2.out⟩
              case measure => simp [intOf]; omega
            | true =>
              have e0 : GrI.code (encB G) = 0 := by rw [hB]; rfl
              have hr : GrI.right G := by simpa [encB] using hB
              have ev : encV G = GrI.word G := by rw [encV, if_pos hB]
              rw [show GrI.code true = 0 from rfl, show encV ⟨G.op, G.d, G.n, G.m, G.imm, G.kind⟩ = GrI.word G from ev]
              by_cases hV : GrI.word G = x
              · have HR := Lib.hid (And.intro hr hV)
                rw [hV]
                have c0 := HD2.out.cell 0 (by decide)
                have f0 := HD2.out.free 0
                have c1 := HD2.out.cell 1 (by decide)
                have f1 := HD2.out.free 1
                have c2 := HD2.out.cell 2 (by decide)
                have f2 := HD2.out.free 2
                have c3 := HD2.out.cell 3 (by decide)
                have f3 := HD2.out.free 3
                have c4 := HD2.out.cell 4 (by decide)
                have f4 := HD2.out.free 4
                have c5 := HD2.out.cell 5 (by decide)
                have f5 := HD2.out.free 5
                have q0 : w2.cell? ⟨w1.heap.size, 0, none⟩ = some (.int .i64 G.op) := (b2.cell (p := ⟨w1.heap.size, 0, none⟩) (by simp)).trans (by simp [World.cell?_alloc_new])
                have q1 : w2.cell? ⟨w1.heap.size, 1, none⟩ = some (.int .i64 G.d) := (b2.cell (p := ⟨w1.heap.size, 1, none⟩) (by simp)).trans (by simp [World.cell?_alloc_new])
                have q2 : w2.cell? ⟨w1.heap.size, 2, none⟩ = some (.int .i64 G.n) := (b2.cell (p := ⟨w1.heap.size, 2, none⟩) (by simp)).trans (by simp [World.cell?_alloc_new])
                have q3 : w2.cell? ⟨w1.heap.size, 3, none⟩ = some (.int .i64 G.m) := (b2.cell (p := ⟨w1.heap.size, 3, none⟩) (by simp)).trans (by simp [World.cell?_alloc_new])
                have q4 : w2.cell? ⟨w1.heap.size, 4, none⟩ = some (.int .i64 G.imm) := (b2.cell (p := ⟨w1.heap.size, 4, none⟩) (by simp)).trans (by simp [World.cell?_alloc_new])
                have q5 : w2.cell? ⟨w1.heap.size, 5, none⟩ = some (.int .i64 G.kind) := (b2.cell (p := ⟨w1.heap.size, 5, none⟩) (by simp)).trans (by simp [World.cell?_alloc_new])
                clear hV hr ev e0 hB b2
                go_wp2
                refine bodyPost_ret (v := .tuple #[iv G, .int .i64 0]) (by simp [results, Tryd.results19, go_sem, iv, *]) rfl ⟨?_, .inl ⟨G, HR.out.1, HR.out.2, rfl⟩⟩
                repeat' (first | exact HD2.out.bel | (with_reducible refine Below.setCell ?_ ?_ _) | (simp; done) | (simp; omega))
              · have miss : ¬ (GrI.right (GrI.gC k x j) ∧ GrI.word (GrI.gC k x j) = x) := by
                  rw [← HG.out]; rintro ⟨_, hw⟩; exact hV hw
                have HX := Lib.hid miss
                clear miss b2 hr ev e0 hB
                go_wp2
                go_roundw
                case rel => exact ⟨j + 1, by omega, by go_num, GrI.none_next HN.out HX.out, HD2.out⟩
                case measure => simp [intOf]; omega
          · have HN := Lib.hid hn
            have HD := Lib.hid hd
            have ej : (j : Int) = GrI.many k := by rw [HM.out]; omega
            clear hn hd
            go_wp2
            go_roundw
            case rel => exact ⟨k + 1, by omega, by omega, by go_num, by have := GrI.none_row (by rw [← ej]; exact HN.out); exact this, HD.out⟩
            case measure => simp [intOf]; omega
      · have HM := Lib.hid (show GrI.many k = 1 by unfold GrI.many; rw [if_pos (by omega)])
        go_upto_region 5 with fail
        go_loopw [18] (fun i wr => ∃ j : Nat, (j : Int) ≤ 1 ∧ i = .int .i64 j ∧ GrI.None x k j ∧ DI w wr) (fun i _ => (1 - intOf i).toNat)
        case atStart => exact ⟨0, by omega, rfl, HN.out, HD.out⟩
        case round =>
          clear HN HD
          obtain ⟨j, j1, rfl, hn, hd⟩ := hrel
          by_cases cj : (j : Int) < 1
          · have HN := Lib.hid hn
            have HD := Lib.hid hd
            clear hn hd
            obtain ⟨G, hG⟩ : ∃ G, G = GrI.gC k x j := ⟨_, rfl⟩
            have gb := GrI.gC_imm x k j X.out.1 X.out.2
            have GU1 := GU.out k j wr HD.out.sh (by omega) (by omega)
            rw [← hG] at gb GU1
            have hop : G.op = k := by rw [hG]; rfl
            have EN := Lib.hid (fun w hs => xenc_any G.op G.d G.n G.m G.imm G.kind w hs (by omega) (by omega) gb.1 gb.2)
            have HG := Lib.hid hG
            have HO := Lib.hid hop
            clear hG hop gb
            have GU2 := Lib.hid GU1
            clear GU1
            go_upto_region 7 with fail
            go_wp2_with fail
            refine GU2.out.mono ?_
            rintro e w1 ⟨rfl, b1⟩
            have HD1 := Lib.hid (HD.out.below b1)
            clear b1
            go_wp2_with fail
            refine (EN.out _ (HD1.out.alloc _).sh).mono ?_
            rintro e w2 ⟨rfl, b2⟩
            have HD2 := Lib.hid ((HD1.out.alloc _).below b2)
            cases hB : encB G with
            | false =>
              have miss : ¬ (GrI.right (GrI.gC k x j) ∧ GrI.word (GrI.gC k x j) = x) := by
                rw [← HG.out]; rintro ⟨hr, _⟩; simp [encB, hr] at hB
              have HX := Lib.hid miss
              have e30 : GrI.code (encB G) = 30 := by rw [hB]; rfl
              rw [show GrI.code false = 30 from rfl]
              clear miss b2
              go_wp2
              go_roundw
              case rel => exact ⟨j + 1, by omega, by go_num, GrI.none_next HN.out HX.out, HD2.out⟩
              case measure => simp [intOf]; omega
            | true =>
              have e0 : GrI.code (encB G) = 0 := by rw [hB]; rfl
              have hr : GrI.right G := by simpa [encB] using hB
              have ev : encV G = GrI.word G := by rw [encV, if_pos hB]
              rw [show GrI.code true = 0 from rfl, show encV ⟨G.op, G.d, G.n, G.m, G.imm, G.kind⟩ = GrI.word G from ev]
              by_cases hV : GrI.word G = x
              · have HR := Lib.hid (And.intro hr hV)
                rw [hV]
                have c0 := HD2.out.cell 0 (by decide)
                have f0 := HD2.out.free 0
                have c1 := HD2.out.cell 1 (by decide)
                have f1 := HD2.out.free 1
                have c2 := HD2.out.cell 2 (by decide)
                have f2 := HD2.out.free 2
                have c3 := HD2.out.cell 3 (by decide)
                have f3 := HD2.out.free 3
                have c4 := HD2.out.cell 4 (by decide)
                have f4 := HD2.out.free 4
                have c5 := HD2.out.cell 5 (by decide)
                have f5 := HD2.out.free 5
                have q0 : w2.cell? ⟨w1.heap.size, 0, none⟩ = some (.int .i64 G.op) := (b2.cell (p := ⟨w1.heap.size, 0, none⟩) (by simp)).trans (by simp [World.cell?_alloc_new])
                have q1 : w2.cell? ⟨w1.heap.size, 1, none⟩ = some (.int .i64 G.d) := (b2.cell (p := ⟨w1.heap.size, 1, none⟩) (by simp)).trans (by simp [World.cell?_alloc_new])
                have q2 : w2.cell? ⟨w1.heap.size, 2, none⟩ = some (.int .i64 G.n) := (b2.cell (p := ⟨w1.heap.size, 2, none⟩) (by simp)).trans (by simp [World.cell?_alloc_new])
                have q3 : w2.cell? ⟨w1.heap.size, 3, none⟩ = some (.int .i64 G.m) := (b2.cell (p := ⟨w1.heap.size, 3, none⟩) (by simp)).trans (by simp [World.cell?_alloc_new])
                have q4 : w2.cell? ⟨w1.heap.size, 4, none⟩ = some (.int .i64 G.imm) := (b2.cell (p := ⟨w1.heap.size, 4, none⟩) (by simp)).trans (by simp [World.cell?_alloc_new])
                have q5 : w2.cell? ⟨w1.heap.size, 5, none⟩ = some (.int .i64 G.kind) := (b2.cell (p := ⟨w1.heap.size, 5, none⟩) (by simp)).trans (by simp [World.cell?_alloc_new])
                clear hV hr ev e0 hB b2
                go_wp2
                refine bodyPost_ret (v := .tuple #[iv G, .int .i64 0]) (by simp [results, Tryd.results19, go_sem, iv, *]) rfl ⟨?_, .inl ⟨G, HR.out.1, HR.out.2, rfl⟩⟩
                repeat' (first | exact HD2.out.bel | (with_reducible refine Below.setCell ?_ ?_ _) | (simp; done) | (simp; omega))
              · have miss : ¬ (GrI.right (GrI.gC k x j) ∧ GrI.word (GrI.gC k x j) = x) := by
                  rw [← HG.out]; rintro ⟨_, hw⟩; exact hV hw
                have HX := Lib.hid miss
                clear miss b2 hr ev e0 hB
                go_wp2
                go_roundw
                case rel => exact ⟨j + 1, by omega, by go_num, GrI.none_next HN.out HX.out, HD2.out⟩
                case measure => simp [intOf]; omega
          · have HN := Lib.hid hn
            have HD := Lib.hid hd
            have ej : (j : Int) = GrI.many k := by rw [HM.out]; omega
            clear hn hd
            go_wp2
            go_roundw
            case rel => exact ⟨k + 1, by omega, by omega, by go_num, by have := GrI.none_row (by rw [← ej]; exact HN.out); exact this, HD.out⟩
            case measure => simp [intOf]; omega
    · obtain rfl : k = 24 := by omega
      have HN := Lib.hid hn
      have HD := Lib.hid hd
      clear hn hd
      have c0 := HD.out.cell 0 (by decide)
      have c1 := HD.out.cell 1 (by decide)
      have c2 := HD.out.cell 2 (by decide)
      have c3 := HD.out.cell 3 (by decide)
      have c4 := HD.out.cell 4 (by decide)
      have c5 := HD.out.cell 5 (by decide)
      have f0 := HD.out.free 0
      have f1 := HD.out.free 1
      have f2 := HD.out.free 2
      have f3 := HD.out.free 3
      have f4 := HD.out.free 4
      have f5 := HD.out.free 5
      go_wp2
      refine bodyPost_ret (v := .tuple #[iv GrI.zero, .int .i64 31]) (by simp [results, Tryd.results19, go_sem, iv, GrI.zero, *]) rfl ⟨?_, .inr ⟨GrI.none_end HN.out, rfl⟩⟩
      repeat' (first | exact HD.out.bel | (with_reducible refine Below.setCell ?_ ?_ _) | (simp; done) | (simp; omega))
end Go.Proofs.YtebpmngllljkaaaDoor
