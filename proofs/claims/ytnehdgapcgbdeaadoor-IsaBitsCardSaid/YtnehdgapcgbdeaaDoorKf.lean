/-
  Layer 3, the code's walks: Decode.
-/
import Derived.Test.YtnehdgapcgbdeaaDoorKe
import Derived.Test.YtnehdgapcgbdeaaDoorRz
import Derived.Test.YtnehdgapcgbdeaaDoorBv
set_option linter.unusedSimpArgs false
set_option linter.unusedVariables false
namespace GrI
theorem tries_le (op : Int) : tries op ≤ 16 := by
  unfold tries
  repeat' split
  all_goals omega
end GrI
namespace Go.Proofs.YtnehdgapcgbdeaaDoor
open Go.RowKit

/-- what Decode hands back -/
def DecPost (x : Int) (w : World) (e : Ending) (w' : World) : Prop :=
  Below w.heap.size w w' ∧ ((∃ y, GrI.right y ∧ GrI.word y = x ∧ e = .returned (.tuple #[iv y, .int .i64 0])) ∨
    ((∀ y, GrI.right y → GrI.word y ≠ x) ∧ e = .returned (.tuple #[iv GrI.zero, .int .i64 31])))
def GuessSays (x : Int) : Prop := ∀ op kind w, ShAt w → 1 ≤ op → op ≤ 23 → Calls Tryd.prog 27 #[.int .u32 x, .int .i64 op, .int .i64 kind] w fun e w' => e = .returned (.agg #[.int .i64 (GrI.gC op x kind).op, .int .i64 (GrI.gC op x kind).d, .int .i64 (GrI.gC op x kind).n, .int .i64 (GrI.gC op x kind).m, .int .i64 (GrI.gC op x kind).imm, .int .i64 (GrI.gC op x kind).kind]) ∧ Below w.heap.size w w'

set_option maxHeartbeats 12800000 in
theorem xdecode_of (x : Int) (w : World) (hs : ShAt w) (h0 : 0 ≤ x) (h1 : x < 4294967296) (GU : GuessSays x) :
    Calls Tryd.prog 14 #[.int .u32 x] w (DecPost x w) := by
  have GU := Lib.hid GU
  have D0 := Lib.hid (DI.start hs _ rfl)
  have X := Lib.hid (And.intro h0 h1)
  clear hs h0 h1
  go_enter Tryd.func14, Tryd.ntmps14
  go_wp2_with fail
  go_loopw [4] (fun i wr => ∃ k : Nat, 1 ≤ k ∧ k ≤ 24 ∧ i = .int .i64 k ∧ GrI.None x k 0 ∧ DI w wr) (fun i _ => 24 - (intOf i).toNat)
  case atStart => exact ⟨1, by omega, by omega, rfl, GrI.none_start x, D0.out⟩
  case round =>
    obtain ⟨k, k0, k1, rfl, hn, hd⟩ := hrel
    by_cases c : k ≤ 23
    · have e7 : wr.cell? ⟨0, k * 9 + 7, none⟩ = some (.int .i64 (GrI.tries k)) := by rw [hd.sh (k * 9 + 7) (by omega), kinds_cell k k0 c]
      have HN := Lib.hid hn
      have HD := Lib.hid hd
      clear hn hd
      by_cases t : 1 ≤ GrI.tries k
      · have HM := Lib.hid (show GrI.many k = GrI.tries k by unfold GrI.many; rw [if_neg (by omega)])
        have tb := GrI.tries_le k
        obtain ⟨M, hM⟩ : ∃ M, M = GrI.tries k := ⟨_, rfl⟩
        rw [← hM] at e7 t HM tb
        clear hM
        have ck : decide ((k : Int) ≤ 23) = true := by simp; omega
        go_upto_region 5 with fail
        go_loopw [18] (fun i wr => ∃ j : Nat, (j : Int) ≤ M ∧ i = .int .i64 j ∧ GrI.None x k j ∧ DI w wr) (fun i _ => (M - intOf i).toNat)
        case atStart => exact ⟨0, by omega, rfl, HN.out, HD.out⟩
        case round =>
          clear HN HD
          obtain ⟨j, j1, rfl, hn, hd⟩ := hrel
          by_cases cj : (j : Int) < M
          · have HN := Lib.hid hn
            have HD := Lib.hid hd
            clear hn hd
            obtain ⟨G, hG⟩ : ∃ G, G = GrI.gC k x j := ⟨_, rfl⟩
            have gb := GrI.gC_imm x k j X.out.1 X.out.2
            have GU1 := GU.out k j wr HD.out.sh (by omega) (by omega)
            rw [← hG] at gb GU1
            have hop : G.op = k := by rw [hG]; rfl
            have EN := Lib.hid (fun w hs => xenc_any G.op G.d G.n G.m G.imm G.kind w hs (by omega) (by omega) gb.1 gb.2)
            have HG := Lib.hid hG
            have HO := Lib.hid hop
            clear hG hop gb
            have GU2 := Lib.hid GU1
            clear GU1
            go_upto_region 7 with fail
            go_wp2_with fail
            refine GU2.out.mono ?_
            rintro e w1 ⟨rfl, b1⟩
            have HD1 := Lib.hid (HD.out.below b1)
            clear b1
            go_wp2_with fail
            refine (EN.out _ (HD1.out.alloc _).sh).mono ?_
            rintro e w2 ⟨rfl, b2⟩
            have HD2 := Lib.hid ((HD1.out.alloc _).below b2)
            cases hB : encB G with
            | false =>
              have miss : ¬ (GrI.right (GrI.gC k x j) ∧ GrI.word (GrI.gC k x j) = x) := by
                rw [← HG.out]; rintro ⟨hr, _⟩; simp [encB, hr] at hB
              have HX := Lib.hid miss
              have e30 : GrI.code (encB G) = 30 := by rw [hB]; rfl
              rw [show GrI.code false = 30 from rfl]
              clear miss b2
              go_wp2
              go_roundw
              case rel => exact ⟨j + 1, by omega, by go_num, GrI.none_next HN.out HX.out, HD2.out⟩
              case measure => simp [intOf]; omega
            | true =>
              have e0 : GrI.code (encB G) = 0 := by rw [hB]; rfl
              have hr : GrI.right G := by simpa [encB] using hB
              have ev : encV G = GrI.word G := by rw [encV, if_pos hB]
              rw [show GrI.code true = 0 from rfl, show encV ⟨G.op, G.d, G.n, G.m, G.imm, G.kind⟩ = GrI.word G from ev]
              by_cases hV : GrI.word G = x
              · have HR := Lib.hid (And.intro hr hV)
                rw [hV]
                have c0 := HD2.out.cell 0 (by decide)
                have f0 := HD2.out.free 0
                have c1 := HD2.out.cell 1 (by decide)
                have f1 := HD2.out.free 1
                have c2 := HD2.out.cell 2 (by decide)
                have f2 := HD2.out.free 2
                have c3 := HD2.out.cell 3 (by decide)
                have f3 := HD2.out.free 3
                have c4 := HD2.out.cell 4 (by decide)
                have f4 := HD2.out.free 4
                have c5 := HD2.out.cell 5 (by decide)
                have f5 := HD2.out.free 5
                have q0 : w2.cell? ⟨w1.heap.size, 0, none⟩ = some (.int .i64 G.op) := (b2.cell (p := ⟨w1.heap.size, 0, none⟩) (by simp)).trans (by simp [World.cell?_alloc_new])
                have q1 : w2.cell? ⟨w1.heap.size, 1, none⟩ = some (.int .i64 G.d) := (b2.cell (p := ⟨w1.heap.size, 1, none⟩) (by simp)).trans (by simp [World.cell?_alloc_new])
                have q2 : w2.cell? ⟨w1.heap.size, 2, none⟩ = some (.int .i64 G.n) := (b2.cell (p := ⟨w1.heap.size, 2, none⟩) (by simp)).trans (by simp [World.cell?_alloc_new])
                have q3 : w2.cell? ⟨w1.heap.size, 3, none⟩ = some (.int .i64 G.m) := (b2.cell (p := ⟨w1.heap.size, 3, none⟩) (by simp)).trans (by simp [World.cell?_alloc_new])
                have q4 : w2.cell? ⟨w1.heap.size, 4, none⟩ = some (.int .i64 G.imm) := (b2.cell (p := ⟨w1.heap.size, 4, none⟩) (by simp)).trans (by simp [World.cell?_alloc_new])
                have q5 : w2.cell? ⟨w1.heap.size, 5, none⟩ = some (.int .i64 G.kind) := (b2.cell (p := ⟨w1.heap.size, 5, none⟩) (by simp)).trans (by simp [World.cell?_alloc_new])
                clear hV hr ev e0 hB b2
                go_wp2
                refine bodyPost_ret (v := .tuple #[iv G, .int .i64 0]) (by simp [results, Tryd.results14, go_sem, iv, *]) rfl ⟨?_, .inl ⟨G, HR.out.1, HR.out.2, rfl⟩⟩
                repeat' (first | exact HD2.out.bel | (with_reducible refine Below.setCell ?_ ?_ _) | (simp; done) | (simp; omega))
              · have miss : ¬ (GrI.right (GrI.gC k x j) ∧ GrI.word (GrI.gC k x j) = x) := by
                  rw [← HG.out]; rintro ⟨_, hw⟩; exact hV hw
                have HX := Lib.hid miss
                clear miss b2 hr ev e0 hB
                go_wp2
                go_roundw
                case rel => exact ⟨j + 1, by omega, by go_num, GrI.none_next HN.out HX.out, HD2.out⟩
                case measure => simp [intOf]; omega
          · have HN := Lib.hid hn
            have HD := Lib.hid hd
            have ej : (j : Int) = GrI.many k := by rw [HM.out]; omega
            clear hn hd
            go_wp2
            go_roundw
            case rel => exact ⟨k + 1, by omega, by omega, by go_num, by have := GrI.none_row (by rw [← ej]; exact HN.out); exact this, HD.out⟩
            case measure => simp [intOf]; omega
      · have HM := Lib.hid (show GrI.many k = 1 by unfold GrI.many; rw [if_pos (by omega)])
        go_upto_region 5 with fail
        go_loopw [18] (fun i wr => ∃ j : Nat, (j : Int) ≤ 1 ∧ i = .int .i64 j ∧ GrI.None x k j ∧ DI w wr) (fun i _ => (1 - intOf i).toNat)
        case atStart => exact ⟨0, by omega, rfl, HN.out, HD.out⟩
        case round =>
          clear HN HD
          obtain ⟨j, j1, rfl, hn, hd⟩ := hrel
          by_cases cj : (j : Int) < 1
          · have HN := Lib.hid hn
            have HD := Lib.hid hd
            clear hn hd
            obtain ⟨G, hG⟩ : ∃ G, G = GrI.gC k x j := ⟨_, rfl⟩
            have gb := GrI.gC_imm x k j X.out.1 X.out.2
            have GU1 := GU.out k j wr HD.out.sh (by omega) (by omega)
            rw [← hG] at gb GU1
            have hop : G.op = k := by rw [hG]; rfl
            have EN := Lib.hid (fun w hs => xenc_any G.op G.d G.n G.m G.imm G.kind w hs (by omega) (by omega) gb.1 gb.2)
            have HG := Lib.hid hG
            have HO := Lib.hid hop
            clear hG hop gb
            have GU2 := Lib.hid GU1
            clear GU1
            go_upto_region 7 with fail
            go_wp2_with fail
            refine GU2.out.mono ?_
            rintro e w1 ⟨rfl, b1⟩
            have HD1 := Lib.hid (HD.out.below b1)
            clear b1
            go_wp2_with fail
            refine (EN.out _ (HD1.out.alloc _).sh).mono ?_
            rintro e w2 ⟨rfl, b2⟩
            have HD2 := Lib.hid ((HD1.out.alloc _).below b2)
            cases hB : encB G with
            | false =>
              have miss : ¬ (GrI.right (GrI.gC k x j) ∧ GrI.word (GrI.gC k x j) = x) := by
                rw [← HG.out]; rintro ⟨hr, _⟩; simp [encB, hr] at hB
              have HX := Lib.hid miss
              have e30 : GrI.code (encB G) = 30 := by rw [hB]; rfl
              rw [show GrI.code false = 30 from rfl]
              clear miss b2
              go_wp2
              go_roundw
              case rel => exact ⟨j + 1, by omega, by go_num, GrI.none_next HN.out HX.out, HD2.out⟩
              case measure => simp [intOf]; omega
            | true =>
              have e0 : GrI.code (encB G) = 0 := by rw [hB]; rfl
              have hr : GrI.right G := by simpa [encB] using hB
              have ev : encV G = GrI.word G := by rw [encV, if_pos hB]
              rw [show GrI.code true = 0 from rfl, show encV ⟨G.op, G.d, G.n, G.m, G.imm, G.kind⟩ = GrI.word G from ev]
              by_cases hV : GrI.word G = x
              · have HR := Lib.hid (And.intro hr hV)
                rw [hV]
                have c0 := HD2.out.cell 0 (by decide)
                have f0 := HD2.out.free 0
                have c1 := HD2.out.cell 1 (by decide)
                have f1 := HD2.out.free 1
                have c2 := HD2.out.cell 2 (by decide)
                have f2 := HD2.out.free 2
                have c3 := HD2.out.cell 3 (by decide)
                have f3 := HD2.out.free 3
                have c4 := HD2.out.cell 4 (by decide)
                have f4 := HD2.out.free 4
                have c5 := HD2.out.cell 5 (by decide)
                have f5 := HD2.out.free 5
                have q0 : w2.cell? ⟨w1.heap.size, 0, none⟩ = some (.int .i64 G.op) := (b2.cell (p := ⟨w1.heap.size, 0, none⟩) (by simp)).trans (by simp [World.cell?_alloc_new])
                have q1 : w2.cell? ⟨w1.heap.size, 1, none⟩ = some (.int .i64 G.d) := (b2.cell (p := ⟨w1.heap.size, 1, none⟩) (by simp)).trans (by simp [World.cell?_alloc_new])
                have q2 : w2.cell? ⟨w1.heap.size, 2, none⟩ = some (.int .i64 G.n) := (b2.cell (p := ⟨w1.heap.size, 2, none⟩) (by simp)).trans (by simp [World.cell?_alloc_new])
                have q3 : w2.cell? ⟨w1.heap.size, 3, none⟩ = some (.int .i64 G.m) := (b2.cell (p := ⟨w1.heap.size, 3, none⟩) (by simp)).trans (by simp [World.cell?_alloc_new])
                have q4 : w2.cell? ⟨w1.heap.size, 4, none⟩ = some (.int .i64 G.imm) := (b2.cell (p := ⟨w1.heap.size, 4, none⟩) (by simp)).trans (by simp [World.cell?_alloc_new])
                have q5 : w2.cell? ⟨w1.heap.size, 5, none⟩ = some (.int .i64 G.kind) := (b2.cell (p := ⟨w1.heap.size, 5, none⟩) (by simp)).trans (by simp [World.cell?_alloc_new])
                clear hV hr ev e0 hB b2
                go_wp2
                refine bodyPost_ret (v := .tuple #[iv G, .int .i64 0]) (by simp [results, Tryd.results14, go_sem, iv, *]) rfl ⟨?_, .inl ⟨G, HR.out.1, HR.out.2, rfl⟩⟩
                repeat' (first | exact HD2.out.bel | (with_reducible refine Below.setCell ?_ ?_ _) | (simp; done) | (simp; omega))
              · have miss : ¬ (GrI.right (GrI.gC k x j) ∧ GrI.word (GrI.gC k x j) = x) := by
                  rw [← HG.out]; rintro ⟨_, hw⟩; exact hV hw
                have HX := Lib.hid miss
                clear miss b2 hr ev e0 hB
                go_wp2
                go_roundw
                case rel => exact ⟨j + 1, by omega, by go_num, GrI.none_next HN.out HX.out, HD2.out⟩
                case measure => simp [intOf]; omega
          · have HN := Lib.hid hn
            have HD := Lib.hid hd
            have ej : (j : Int) = GrI.many k := by rw [HM.out]; omega
            clear hn hd
            go_wp2
            go_roundw
            case rel => exact ⟨k + 1, by omega, by omega, by go_num, by have := GrI.none_row (by rw [← ej]; exact HN.out); exact this, HD.out⟩
            case measure => simp [intOf]; omega
    · obtain rfl : k = 24 := by omega
      have HN := Lib.hid hn
      have HD := Lib.hid hd
      clear hn hd
      have c0 := HD.out.cell 0 (by decide)
      have c1 := HD.out.cell 1 (by decide)
      have c2 := HD.out.cell 2 (by decide)
      have c3 := HD.out.cell 3 (by decide)
      have c4 := HD.out.cell 4 (by decide)
      have c5 := HD.out.cell 5 (by decide)
      have f0 := HD.out.free 0
      have f1 := HD.out.free 1
      have f2 := HD.out.free 2
      have f3 := HD.out.free 3
      have f4 := HD.out.free 4
      have f5 := HD.out.free 5
      go_wp2
      refine bodyPost_ret (v := .tuple #[iv GrI.zero, .int .i64 31]) (by simp [results, Tryd.results14, go_sem, iv, GrI.zero, *]) rfl ⟨?_, .inr ⟨GrI.none_end HN.out, rfl⟩⟩
      repeat' (first | exact HD.out.bel | (with_reducible refine Below.setCell ?_ ?_ _) | (simp; done) | (simp; omega))
end Go.Proofs.YtnehdgapcgbdeaaDoor
