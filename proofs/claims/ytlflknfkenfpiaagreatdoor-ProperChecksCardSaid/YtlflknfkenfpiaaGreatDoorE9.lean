/-
  Texts of one claim, merged.
-/
import Derived.Test.YtlflknfkenfpiaaGreatDoorB6
import Derived.Test.YtlflknfkenfpiaaGreatDoorE0
import Derived.Test.YtlflknfkenfpiaaGreatDoorE1
import Derived.Test.YtlflknfkenfpiaaGreatDoorE2
import Derived.Test.YtlflknfkenfpiaaGreatDoorE4
set_option linter.unusedSimpArgs false
set_option linter.unusedVariables false
namespace Go.Proofs.YtlflknfkenfpiaaGreatDoor
open Go.RowKit
theorem irright_below (x : GrI.I) (w : World) :
    Calls Tryz.prog 57 #[iv x] w fun e w' => e = .returned (.bool (decide (GrI.right x))) ∧ Below w.heap.size w w' :=
  (irright_any x w).mono fun _ _ h => ⟨h.1, h.2 ▸ (Below.refl _ _).alloc (Nat.le_refl _) _⟩
end Go.Proofs.YtlflknfkenfpiaaGreatDoor
namespace Go.Proofs.YtlflknfkenfpiaaGreatDoor
open Go.RowKit GrN
set_option maxRecDepth 100000 in
set_option maxHeartbeats 6400000 in
theorem cinstr_any (op d n m imm kind left : Int) (h : Bool) (w : World) (hs : ShAt w) (hb0 : -9223372036854775808 ≤ imm) (hb1 : imm ≤ 9223372036854775807) :
    Calls Tryz.prog 55 #[.agg #[.int .i64 op, .int .i64 d, .int .i64 n, .int .i64 m, .int .i64 imm, .int .i64 kind], .int .i64 left, .bool h] w fun e w' => e = .returned (.int .i64 (instrS (encB ⟨op, d, n, m, imm, kind⟩) op imm left h)) ∧ Below w.heap.size w w' := by
  obtain ⟨a0, a1, a2, a3, a4, a5, kb⟩ := ibox6 w op d n m imm kind _ rfl
  have KB := Lib.hid kb
  have RA := Lib.hid (fun (U : World) (b : Below w.heap.size w U) => xright_all ⟨op, d, n, m, imm, kind⟩ U (hs.below b) hb0 hb1)
  have BA := Lib.hid (fun U => branch_any op d n m imm kind U)
  obtain ⟨r, hr⟩ : ∃ r, r = encB ⟨op, d, n, m, imm, kind⟩ := ⟨_, rfl⟩
  rw [← hr]
  have HR := Lib.hid hr
  clear kb hr hs hb0 hb1
  have RA := Lib.hid (show ∀ U : World, Below w.heap.size w U → Calls Tryz.prog 86 #[.agg #[.int .i64 op, .int .i64 d, .int .i64 n, .int .i64 m, .int .i64 imm, .int .i64 kind]] U fun e w' => e = .returned (.int .i64 (GrI.code r)) ∧ Below U.heap.size U w' from fun U b => by rw [HR.out]; exact RA.out U b)
  clear HR
  cases r with
  | false =>
    have E := Lib.hid (show instrS false op imm left h = 30 by simp [instrS, *])
    have c0 : GrI.code false = 30 := rfl
    simp only [c0] at RA
    go_enter Tryz.func55, Tryz.ntmps55
    go_upto_region 1 with fail
    obtain ⟨x0, hx0⟩ : ∃ x : Wb (w.alloc (.cells #[.int .i64 op, .int .i64 d, .int .i64 n, .int .i64 m, .int .i64 imm, .int .i64 kind] 84)), w.alloc (.cells #[.int .i64 op, .int .i64 d, .int .i64 n, .int .i64 m, .int .i64 imm, .int .i64 kind] 84) = x.at := ⟨⟨_, Below.refl _ _⟩, rfl⟩
    rw [hx0]
    clear hx0
    go_wp2_with fail
    refine (RA.out _ (KB.out x0)).mono ?_
    rintro e w1 ⟨rfl, b⟩
    obtain ⟨x1, rfl⟩ := Wb.next b
    clear b
    go_wp2
    go_ret
    exact ⟨by rw [E.out]; rfl, KB.out x1⟩
  | true =>
    by_cases e22 : op = 22
    · subst e22
      cases h with
      | false =>
        have E := Lib.hid (show instrS true 22 imm left false = 30 by simp [instrS, branchB, *])
        have c0 : GrI.code true = 0 := rfl
        simp only [c0] at RA
        go_enter Tryz.func55, Tryz.ntmps55
        go_upto_region 1 with fail
        obtain ⟨x0, hx0⟩ : ∃ x : Wb (w.alloc (.cells #[.int .i64 22, .int .i64 d, .int .i64 n, .int .i64 m, .int .i64 imm, .int .i64 kind] 84)), w.alloc (.cells #[.int .i64 22, .int .i64 d, .int .i64 n, .int .i64 m, .int .i64 imm, .int .i64 kind] 84) = x.at := ⟨⟨_, Below.refl _ _⟩, rfl⟩
        rw [hx0]
        clear hx0
        go_wp2_with fail
        refine (RA.out _ (KB.out x0)).mono ?_
        rintro e w1 ⟨rfl, b⟩
        obtain ⟨x1, rfl⟩ := Wb.next b
        clear b
        go_wp2
        go_ret
        exact ⟨by rw [E.out]; rfl, KB.out x1⟩
      | true =>
        have E := Lib.hid (show instrS true 22 imm left true = 0 by simp [instrS, branchB, *])
        have b0 : branchB 22 = false := rfl
        have c0 : GrI.code true = 0 := rfl
        simp only [c0] at RA
        simp only [b0] at BA
        go_enter Tryz.func55, Tryz.ntmps55
        go_upto_region 1 with fail
        obtain ⟨x0, hx0⟩ : ∃ x : Wb (w.alloc (.cells #[.int .i64 22, .int .i64 d, .int .i64 n, .int .i64 m, .int .i64 imm, .int .i64 kind] 84)), w.alloc (.cells #[.int .i64 22, .int .i64 d, .int .i64 n, .int .i64 m, .int .i64 imm, .int .i64 kind] 84) = x.at := ⟨⟨_, Below.refl _ _⟩, rfl⟩
        rw [hx0]
        clear hx0
        go_wp2_with fail
        refine (RA.out _ (KB.out x0)).mono ?_
        rintro e w1 ⟨rfl, b⟩
        obtain ⟨x1, rfl⟩ := Wb.next b
        clear b
        go_wp2_with fail
        refine (BA.out _).mono ?_
        rintro e w2 ⟨rfl, b⟩
        obtain ⟨x2, rfl⟩ := Wb.next b
        clear b
        go_wp2
        go_ret
        exact ⟨by rw [E.out]; rfl, KB.out x2⟩
    have q22 : (op == 22) = false := by simpa using e22
    by_cases e14 : op = 14
    · subst e14
      by_cases g1 : imm < 1
      · have E := Lib.hid (show instrS true 14 imm left h = 134 by simp [instrS, *])
        clear e22
        have c0 : GrI.code true = 0 := rfl
        simp only [c0] at RA
        go_enter Tryz.func55, Tryz.ntmps55
        go_upto_region 1 with fail
        obtain ⟨x0, hx0⟩ : ∃ x : Wb (w.alloc (.cells #[.int .i64 14, .int .i64 d, .int .i64 n, .int .i64 m, .int .i64 imm, .int .i64 kind] 84)), w.alloc (.cells #[.int .i64 14, .int .i64 d, .int .i64 n, .int .i64 m, .int .i64 imm, .int .i64 kind] 84) = x.at := ⟨⟨_, Below.refl _ _⟩, rfl⟩
        rw [hx0]
        clear hx0
        go_wp2_with fail
        refine (RA.out _ (KB.out x0)).mono ?_
        rintro e w1 ⟨rfl, b⟩
        obtain ⟨x1, rfl⟩ := Wb.next b
        clear b
        go_wp2
        go_ret
        exact ⟨by rw [E.out]; rfl, KB.out x1⟩
      by_cases g2 : left < imm
      · have E := Lib.hid (show instrS true 14 imm left h = 1 by simp [instrS, *])
        clear e22
        have c0 : GrI.code true = 0 := rfl
        simp only [c0] at RA
        go_enter Tryz.func55, Tryz.ntmps55
        go_upto_region 1 with fail
        obtain ⟨x0, hx0⟩ : ∃ x : Wb (w.alloc (.cells #[.int .i64 14, .int .i64 d, .int .i64 n, .int .i64 m, .int .i64 imm, .int .i64 kind] 84)), w.alloc (.cells #[.int .i64 14, .int .i64 d, .int .i64 n, .int .i64 m, .int .i64 imm, .int .i64 kind] 84) = x.at := ⟨⟨_, Below.refl _ _⟩, rfl⟩
        rw [hx0]
        clear hx0
        go_wp2_with fail
        refine (RA.out _ (KB.out x0)).mono ?_
        rintro e w1 ⟨rfl, b⟩
        obtain ⟨x1, rfl⟩ := Wb.next b
        clear b
        go_wp2
        go_ret
        exact ⟨by rw [E.out]; rfl, KB.out x1⟩
      have E := Lib.hid (show instrS true 14 imm left h = 0 by simp [instrS, *])
      clear e22
      have c0 : GrI.code true = 0 := rfl
      simp only [c0] at RA
      go_enter Tryz.func55, Tryz.ntmps55
      go_upto_region 1 with fail
      obtain ⟨x0, hx0⟩ : ∃ x : Wb (w.alloc (.cells #[.int .i64 14, .int .i64 d, .int .i64 n, .int .i64 m, .int .i64 imm, .int .i64 kind] 84)), w.alloc (.cells #[.int .i64 14, .int .i64 d, .int .i64 n, .int .i64 m, .int .i64 imm, .int .i64 kind] 84) = x.at := ⟨⟨_, Below.refl _ _⟩, rfl⟩
      rw [hx0]
      clear hx0
      go_wp2_with fail
      refine (RA.out _ (KB.out x0)).mono ?_
      rintro e w1 ⟨rfl, b⟩
      obtain ⟨x1, rfl⟩ := Wb.next b
      clear b
      go_wp2
      go_ret
      exact ⟨by rw [E.out]; rfl, KB.out x1⟩
    have q14 : (op == 14) = false := by simpa using e14
    cases cb : branchB op with
    | true =>
      by_cases g1 : imm < 1
      · have E := Lib.hid (show instrS true op imm left h = 134 by simp [instrS, *])
        clear e22 e14
        rw [cb] at BA
        clear cb
        have c0 : GrI.code true = 0 := rfl
        simp only [c0] at RA
        go_enter Tryz.func55, Tryz.ntmps55
        go_upto_region 1 with fail
        obtain ⟨x0, hx0⟩ : ∃ x : Wb (w.alloc (.cells #[.int .i64 op, .int .i64 d, .int .i64 n, .int .i64 m, .int .i64 imm, .int .i64 kind] 84)), w.alloc (.cells #[.int .i64 op, .int .i64 d, .int .i64 n, .int .i64 m, .int .i64 imm, .int .i64 kind] 84) = x.at := ⟨⟨_, Below.refl _ _⟩, rfl⟩
        rw [hx0]
        clear hx0
        go_wp2_with fail
        refine (RA.out _ (KB.out x0)).mono ?_
        rintro e w1 ⟨rfl, b⟩
        obtain ⟨x1, rfl⟩ := Wb.next b
        clear b
        go_wp2_with fail
        refine (BA.out _).mono ?_
        rintro e w2 ⟨rfl, b⟩
        obtain ⟨x2, rfl⟩ := Wb.next b
        clear b
        go_wp2
        go_ret
        exact ⟨by rw [E.out]; rfl, KB.out x2⟩
      by_cases g2 : left < imm
      · have E := Lib.hid (show instrS true op imm left h = 1 by simp [instrS, *])
        clear e22 e14
        rw [cb] at BA
        clear cb
        have c0 : GrI.code true = 0 := rfl
        simp only [c0] at RA
        go_enter Tryz.func55, Tryz.ntmps55
        go_upto_region 1 with fail
        obtain ⟨x0, hx0⟩ : ∃ x : Wb (w.alloc (.cells #[.int .i64 op, .int .i64 d, .int .i64 n, .int .i64 m, .int .i64 imm, .int .i64 kind] 84)), w.alloc (.cells #[.int .i64 op, .int .i64 d, .int .i64 n, .int .i64 m, .int .i64 imm, .int .i64 kind] 84) = x.at := ⟨⟨_, Below.refl _ _⟩, rfl⟩
        rw [hx0]
        clear hx0
        go_wp2_with fail
        refine (RA.out _ (KB.out x0)).mono ?_
        rintro e w1 ⟨rfl, b⟩
        obtain ⟨x1, rfl⟩ := Wb.next b
        clear b
        go_wp2_with fail
        refine (BA.out _).mono ?_
        rintro e w2 ⟨rfl, b⟩
        obtain ⟨x2, rfl⟩ := Wb.next b
        clear b
        go_wp2
        go_ret
        exact ⟨by rw [E.out]; rfl, KB.out x2⟩
      have E := Lib.hid (show instrS true op imm left h = 0 by simp [instrS, *])
      clear e22 e14
      rw [cb] at BA
      clear cb
      have c0 : GrI.code true = 0 := rfl
      simp only [c0] at RA
      go_enter Tryz.func55, Tryz.ntmps55
      go_upto_region 1 with fail
      obtain ⟨x0, hx0⟩ : ∃ x : Wb (w.alloc (.cells #[.int .i64 op, .int .i64 d, .int .i64 n, .int .i64 m, .int .i64 imm, .int .i64 kind] 84)), w.alloc (.cells #[.int .i64 op, .int .i64 d, .int .i64 n, .int .i64 m, .int .i64 imm, .int .i64 kind] 84) = x.at := ⟨⟨_, Below.refl _ _⟩, rfl⟩
      rw [hx0]
      clear hx0
      go_wp2_with fail
      refine (RA.out _ (KB.out x0)).mono ?_
      rintro e w1 ⟨rfl, b⟩
      obtain ⟨x1, rfl⟩ := Wb.next b
      clear b
      go_wp2_with fail
      refine (BA.out _).mono ?_
      rintro e w2 ⟨rfl, b⟩
      obtain ⟨x2, rfl⟩ := Wb.next b
      clear b
      go_wp2
      go_ret
      exact ⟨by rw [E.out]; rfl, KB.out x2⟩
    | false =>
      have E := Lib.hid (show instrS true op imm left h = 0 by simp [instrS, *])
      clear e22 e14
      rw [cb] at BA
      clear cb
      have c0 : GrI.code true = 0 := rfl
      simp only [c0] at RA
      go_enter Tryz.func55, Tryz.ntmps55
      go_upto_region 1 with fail
      obtain ⟨x0, hx0⟩ : ∃ x : Wb (w.alloc (.cells #[.int .i64 op, .int .i64 d, .int .i64 n, .int .i64 m, .int .i64 imm, .int .i64 kind] 84)), w.alloc (.cells #[.int .i64 op, .int .i64 d, .int .i64 n, .int .i64 m, .int .i64 imm, .int .i64 kind] 84) = x.at := ⟨⟨_, Below.refl _ _⟩, rfl⟩
      rw [hx0]
      clear hx0
      go_wp2_with fail
      refine (RA.out _ (KB.out x0)).mono ?_
      rintro e w1 ⟨rfl, b⟩
      obtain ⟨x1, rfl⟩ := Wb.next b
      clear b
      go_wp2_with fail
      refine (BA.out _).mono ?_
      rintro e w2 ⟨rfl, b⟩
      obtain ⟨x2, rfl⟩ := Wb.next b
      clear b
      go_wp2
      go_ret
      exact ⟨by rw [E.out]; rfl, KB.out x2⟩
set_option maxRecDepth 100000 in
set_option maxHeartbeats 6400000 in
theorem rinstr_any (op d n m imm kind left : Int) (h : Bool) (w : World) :
    Calls Tryz.prog 36 #[.agg #[.int .i64 op, .int .i64 d, .int .i64 n, .int .i64 m, .int .i64 imm, .int .i64 kind], .int .i64 left, .bool h] w fun e w' => e = .returned (.int .i64 (instrS (encB ⟨op, d, n, m, imm, kind⟩) op imm left h)) ∧ Below w.heap.size w w' := by
  obtain ⟨a0, a1, a2, a3, a4, a5, kb⟩ := ibox6 w op d n m imm kind _ rfl
  have KB := Lib.hid kb
  have RA := Lib.hid (fun U => irright_below ⟨op, d, n, m, imm, kind⟩ U)
  have BA := Lib.hid (fun U => pbranch_any op d n m imm kind U)
  obtain ⟨r, hr⟩ : ∃ r, r = encB ⟨op, d, n, m, imm, kind⟩ := ⟨_, rfl⟩
  rw [← hr]
  have HR := Lib.hid hr
  clear kb hr
  have RA := Lib.hid (show ∀ U : World, Calls Tryz.prog 57 #[.agg #[.int .i64 op, .int .i64 d, .int .i64 n, .int .i64 m, .int .i64 imm, .int .i64 kind]] U fun e w' => e = .returned (.bool r) ∧ Below U.heap.size U w' from fun U => by rw [HR.out]; exact RA.out U)
  clear HR
  cases r with
  | false =>
    have E := Lib.hid (show instrS false op imm left h = 30 by simp [instrS, *])
    go_enter Tryz.func36, Tryz.ntmps36
    go_upto_region 1 with fail
    obtain ⟨x0, hx0⟩ : ∃ x : Wb (w.alloc (.cells #[.int .i64 op, .int .i64 d, .int .i64 n, .int .i64 m, .int .i64 imm, .int .i64 kind] 84)), w.alloc (.cells #[.int .i64 op, .int .i64 d, .int .i64 n, .int .i64 m, .int .i64 imm, .int .i64 kind] 84) = x.at := ⟨⟨_, Below.refl _ _⟩, rfl⟩
    rw [hx0]
    clear hx0
    go_wp2_with fail
    refine (RA.out _).mono ?_
    rintro e w1 ⟨rfl, b⟩
    obtain ⟨x1, rfl⟩ := Wb.next b
    clear b
    go_wp2
    go_ret
    exact ⟨by rw [E.out]; rfl, KB.out x1⟩
  | true =>
    by_cases e22 : op = 22
    · subst e22
      cases h with
      | false =>
        have E := Lib.hid (show instrS true 22 imm left false = 30 by simp [instrS, branchB, *])
        go_enter Tryz.func36, Tryz.ntmps36
        go_upto_region 1 with fail
        obtain ⟨x0, hx0⟩ : ∃ x : Wb (w.alloc (.cells #[.int .i64 22, .int .i64 d, .int .i64 n, .int .i64 m, .int .i64 imm, .int .i64 kind] 84)), w.alloc (.cells #[.int .i64 22, .int .i64 d, .int .i64 n, .int .i64 m, .int .i64 imm, .int .i64 kind] 84) = x.at := ⟨⟨_, Below.refl _ _⟩, rfl⟩
        rw [hx0]
        clear hx0
        go_wp2_with fail
        refine (RA.out _).mono ?_
        rintro e w1 ⟨rfl, b⟩
        obtain ⟨x1, rfl⟩ := Wb.next b
        clear b
        go_wp2
        go_ret
        exact ⟨by rw [E.out]; rfl, KB.out x1⟩
      | true =>
        have E := Lib.hid (show instrS true 22 imm left true = 0 by simp [instrS, branchB, *])
        have b0 : branchB 22 = false := rfl
        simp only [b0] at BA
        go_enter Tryz.func36, Tryz.ntmps36
        go_upto_region 1 with fail
        obtain ⟨x0, hx0⟩ : ∃ x : Wb (w.alloc (.cells #[.int .i64 22, .int .i64 d, .int .i64 n, .int .i64 m, .int .i64 imm, .int .i64 kind] 84)), w.alloc (.cells #[.int .i64 22, .int .i64 d, .int .i64 n, .int .i64 m, .int .i64 imm, .int .i64 kind] 84) = x.at := ⟨⟨_, Below.refl _ _⟩, rfl⟩
        rw [hx0]
        clear hx0
        go_wp2_with fail
        refine (RA.out _).mono ?_
        rintro e w1 ⟨rfl, b⟩
        obtain ⟨x1, rfl⟩ := Wb.next b
        clear b
        go_wp2_with fail
        refine (BA.out _).mono ?_
        rintro e w2 ⟨rfl, b⟩
        obtain ⟨x2, rfl⟩ := Wb.next b
        clear b
        go_wp2
        go_ret
        exact ⟨by rw [E.out]; rfl, KB.out x2⟩
    have q22 : (op == 22) = false := by simpa using e22
    by_cases e14 : op = 14
    · subst e14
      by_cases g1 : imm < 1
      · have E := Lib.hid (show instrS true 14 imm left h = 134 by simp [instrS, *])
        clear e22
        go_enter Tryz.func36, Tryz.ntmps36
        go_upto_region 1 with fail
        obtain ⟨x0, hx0⟩ : ∃ x : Wb (w.alloc (.cells #[.int .i64 14, .int .i64 d, .int .i64 n, .int .i64 m, .int .i64 imm, .int .i64 kind] 84)), w.alloc (.cells #[.int .i64 14, .int .i64 d, .int .i64 n, .int .i64 m, .int .i64 imm, .int .i64 kind] 84) = x.at := ⟨⟨_, Below.refl _ _⟩, rfl⟩
        rw [hx0]
        clear hx0
        go_wp2_with fail
        refine (RA.out _).mono ?_
        rintro e w1 ⟨rfl, b⟩
        obtain ⟨x1, rfl⟩ := Wb.next b
        clear b
        go_wp2
        go_ret
        exact ⟨by rw [E.out]; rfl, KB.out x1⟩
      by_cases g2 : left < imm
      · have E := Lib.hid (show instrS true 14 imm left h = 1 by simp [instrS, *])
        clear e22
        go_enter Tryz.func36, Tryz.ntmps36
        go_upto_region 1 with fail
        obtain ⟨x0, hx0⟩ : ∃ x : Wb (w.alloc (.cells #[.int .i64 14, .int .i64 d, .int .i64 n, .int .i64 m, .int .i64 imm, .int .i64 kind] 84)), w.alloc (.cells #[.int .i64 14, .int .i64 d, .int .i64 n, .int .i64 m, .int .i64 imm, .int .i64 kind] 84) = x.at := ⟨⟨_, Below.refl _ _⟩, rfl⟩
        rw [hx0]
        clear hx0
        go_wp2_with fail
        refine (RA.out _).mono ?_
        rintro e w1 ⟨rfl, b⟩
        obtain ⟨x1, rfl⟩ := Wb.next b
        clear b
        go_wp2
        go_ret
        exact ⟨by rw [E.out]; rfl, KB.out x1⟩
      have E := Lib.hid (show instrS true 14 imm left h = 0 by simp [instrS, *])
      clear e22
      go_enter Tryz.func36, Tryz.ntmps36
      go_upto_region 1 with fail
      obtain ⟨x0, hx0⟩ : ∃ x : Wb (w.alloc (.cells #[.int .i64 14, .int .i64 d, .int .i64 n, .int .i64 m, .int .i64 imm, .int .i64 kind] 84)), w.alloc (.cells #[.int .i64 14, .int .i64 d, .int .i64 n, .int .i64 m, .int .i64 imm, .int .i64 kind] 84) = x.at := ⟨⟨_, Below.refl _ _⟩, rfl⟩
      rw [hx0]
      clear hx0
      go_wp2_with fail
      refine (RA.out _).mono ?_
      rintro e w1 ⟨rfl, b⟩
      obtain ⟨x1, rfl⟩ := Wb.next b
      clear b
      go_wp2
      go_ret
      exact ⟨by rw [E.out]; rfl, KB.out x1⟩
    have q14 : (op == 14) = false := by simpa using e14
    cases cb : branchB op with
    | true =>
      by_cases g1 : imm < 1
      · have E := Lib.hid (show instrS true op imm left h = 134 by simp [instrS, *])
        clear e22 e14
        rw [cb] at BA
        clear cb
        go_enter Tryz.func36, Tryz.ntmps36
        go_upto_region 1 with fail
        obtain ⟨x0, hx0⟩ : ∃ x : Wb (w.alloc (.cells #[.int .i64 op, .int .i64 d, .int .i64 n, .int .i64 m, .int .i64 imm, .int .i64 kind] 84)), w.alloc (.cells #[.int .i64 op, .int .i64 d, .int .i64 n, .int .i64 m, .int .i64 imm, .int .i64 kind] 84) = x.at := ⟨⟨_, Below.refl _ _⟩, rfl⟩
        rw [hx0]
        clear hx0
        go_wp2_with fail
        refine (RA.out _).mono ?_
        rintro e w1 ⟨rfl, b⟩
        obtain ⟨x1, rfl⟩ := Wb.next b
        clear b
        go_wp2_with fail
        refine (BA.out _).mono ?_
        rintro e w2 ⟨rfl, b⟩
        obtain ⟨x2, rfl⟩ := Wb.next b
        clear b
        go_wp2
        go_ret
        exact ⟨by rw [E.out]; rfl, KB.out x2⟩
      by_cases g2 : left < imm
      · have E := Lib.hid (show instrS true op imm left h = 1 by simp [instrS, *])
        clear e22 e14
        rw [cb] at BA
        clear cb
        go_enter Tryz.func36, Tryz.ntmps36
        go_upto_region 1 with fail
        obtain ⟨x0, hx0⟩ : ∃ x : Wb (w.alloc (.cells #[.int .i64 op, .int .i64 d, .int .i64 n, .int .i64 m, .int .i64 imm, .int .i64 kind] 84)), w.alloc (.cells #[.int .i64 op, .int .i64 d, .int .i64 n, .int .i64 m, .int .i64 imm, .int .i64 kind] 84) = x.at := ⟨⟨_, Below.refl _ _⟩, rfl⟩
        rw [hx0]
        clear hx0
        go_wp2_with fail
        refine (RA.out _).mono ?_
        rintro e w1 ⟨rfl, b⟩
        obtain ⟨x1, rfl⟩ := Wb.next b
        clear b
        go_wp2_with fail
        refine (BA.out _).mono ?_
        rintro e w2 ⟨rfl, b⟩
        obtain ⟨x2, rfl⟩ := Wb.next b
        clear b
        go_wp2
        go_ret
        exact ⟨by rw [E.out]; rfl, KB.out x2⟩
      have E := Lib.hid (show instrS true op imm left h = 0 by simp [instrS, *])
      clear e22 e14
      rw [cb] at BA
      clear cb
      go_enter Tryz.func36, Tryz.ntmps36
      go_upto_region 1 with fail
      obtain ⟨x0, hx0⟩ : ∃ x : Wb (w.alloc (.cells #[.int .i64 op, .int .i64 d, .int .i64 n, .int .i64 m, .int .i64 imm, .int .i64 kind] 84)), w.alloc (.cells #[.int .i64 op, .int .i64 d, .int .i64 n, .int .i64 m, .int .i64 imm, .int .i64 kind] 84) = x.at := ⟨⟨_, Below.refl _ _⟩, rfl⟩
      rw [hx0]
      clear hx0
      go_wp2_with fail
      refine (RA.out _).mono ?_
      rintro e w1 ⟨rfl, b⟩
      obtain ⟨x1, rfl⟩ := Wb.next b
      clear b
      go_wp2_with fail
      refine (BA.out _).mono ?_
      rintro e w2 ⟨rfl, b⟩
      obtain ⟨x2, rfl⟩ := Wb.next b
      clear b
      go_wp2
      go_ret
      exact ⟨by rw [E.out]; rfl, KB.out x2⟩
    | false =>
      have E := Lib.hid (show instrS true op imm left h = 0 by simp [instrS, *])
      clear e22 e14
      rw [cb] at BA
      clear cb
      go_enter Tryz.func36, Tryz.ntmps36
      go_upto_region 1 with fail
      obtain ⟨x0, hx0⟩ : ∃ x : Wb (w.alloc (.cells #[.int .i64 op, .int .i64 d, .int .i64 n, .int .i64 m, .int .i64 imm, .int .i64 kind] 84)), w.alloc (.cells #[.int .i64 op, .int .i64 d, .int .i64 n, .int .i64 m, .int .i64 imm, .int .i64 kind] 84) = x.at := ⟨⟨_, Below.refl _ _⟩, rfl⟩
      rw [hx0]
      clear hx0
      go_wp2_with fail
      refine (RA.out _).mono ?_
      rintro e w1 ⟨rfl, b⟩
      obtain ⟨x1, rfl⟩ := Wb.next b
      clear b
      go_wp2_with fail
      refine (BA.out _).mono ?_
      rintro e w2 ⟨rfl, b⟩
      obtain ⟨x2, rfl⟩ := Wb.next b
      clear b
      go_wp2
      go_ret
      exact ⟨by rw [E.out]; rfl, KB.out x2⟩
end Go.Proofs.YtlflknfkenfpiaaGreatDoor
namespace Go.Proofs.YtlflknfkenfpiaaGreatDoor
open Go.RowKit GrN
set_option maxRecDepth 100000 in
set_option maxHeartbeats 6400000 in
theorem declared_any (L : List Int) (p : Option Addr) (n c : Nat) (a : Int) (w : World) (hn : n = L.length) (hm : n ≤ maxLen) (hL : NAt .u64 w p L) :
    Calls Tryz.prog 32 #[.slice p n c, .int .u64 a] w fun e w' => e = .returned (.bool (decide (a ∈ L))) ∧ Below w.heap.size w w' := by
  have N := Lib.hid hn
  have XL := Lib.hid hL
  have m9 : (n : Int) ≤ 9223372036854775807 := by unfold maxLen at hm; omega
  have m0 : (0 : Int) ≤ (n : Int) := by omega
  clear hn hL hm
  go_enter Tryz.func32, Tryz.ntmps32
  go_wp2_with fail
  go_loopw [9] (fun iv wr => ∃ i : Nat, i ≤ n ∧ iv = .int .i64 (i : Int) ∧ (∀ j (h : j < L.length), j < i → L[j]'h ≠ a) ∧ w = wr) (fun iv _ => n - (intOf iv).toNat)
  case atStart => exact ⟨0, by omega, rfl, fun j h h2 => by omega, rfl⟩
  case round =>
    obtain ⟨i, hi, rfl, hall, rfl⟩ := hrel
    have HA := Lib.hid hall
    clear hall
    have i0 : (0 : Int) ≤ (i : Int) := by omega
    by_cases ci : i < n
    · have l1 : i < L.length := by have := N.out; omega
      obtain ⟨b, rfl, c0⟩ := XL.out i l1
      have IL := Lib.hid (show i + 1 ≤ n by omega)
      have g1 : (i : Int) < (n : Int) := by omega
      obtain ⟨v, hv⟩ : ∃ v, v = L[i]'l1 := ⟨_, rfl⟩
      rw [← hv] at c0
      by_cases e : v = a
      · subst e
        have R := Lib.hid (show decide (v ∈ L) = true by rw [hv]; simp)
        clear hv ci hi
        go_wp2
        go_ret
        exact ⟨ret_bb (by rw [R.out]), Below.refl _ _⟩
      · have eb : (v == a) = false := by simpa using e
        have NX := Lib.hid (show ∀ j (h : j < L.length), j < i + 1 → L[j]'h ≠ a from fun j h h2 => by
          by_cases ej : j = i
          · subst ej; rw [← hv]; exact e
          · exact HA.out j h (by omega))
        clear hv ci hi e
        go_wp2
        go_roundw
        case rel => exact ⟨i + 1, IL.out, by go_num, NX.out, trivial⟩
        case measure => have := IL.out; simp [intOf] <;> omega
    · have g1 : ¬ (i : Int) < (n : Int) := by omega
      have R := Lib.hid (show decide (a ∈ L) = false by
        refine decide_eq_false fun hc => ?_
        obtain ⟨j, hj, e⟩ := List.getElem_of_mem hc
        exact absurd e (HA.out j hj (by have := N.out; omega)))
      clear ci hi
      go_wp2
      go_ret
      exact ⟨ret_bb (by rw [R.out]), Below.refl _ _⟩
set_option maxRecDepth 100000 in
set_option maxHeartbeats 12800000 in
theorem ccode_any (L : List GrI.I) (p : Option Addr) (n c : Nat) (PL : List Int) (pp : Option Addr) (np cp : Nat) (h : Bool) (w : World) (hn : n = L.length) (hm : n ≤ maxLen) (hL : XsAt w p L) (hb : ∀ x ∈ L, -9223372036854775808 ≤ x.imm ∧ x.imm ≤ 9223372036854775807)
    (hpn : np = PL.length) (hpm : np ≤ maxLen) (hp : NAt .i64 w pp PL) (hs : ShAt w) :
    Calls Tryz.prog 33 #[.slice p n c, .slice pp np cp, .bool h] w fun e w' => e = .returned (pbV (ans (firstF (codeF encB L h) L.length) PL)) ∧ Below w.heap.size w w' := by
  have N := Lib.hid hn
  have XL := Lib.hid hL
  have m9 : (n : Int) ≤ 9223372036854775807 := by unfold maxLen at hm; omega
  have m0 : (0 : Int) ≤ (n : Int) := by omega
  have PC := Lib.hid (fun (U : World) (b : Below w.heap.size w U) (i : Nat) => place_any PL pp np cp i U hpn (hp.below b) hpm)
  have IC := Lib.hid (fun (U : World) (b : Below w.heap.size w U) (op d nn m imm kind left : Int) (h0 : -9223372036854775808 ≤ imm) (h1 : imm ≤ 9223372036854775807) => cinstr_any op d nn m imm kind left h U (hs.below b) h0 h1)
  have HB := Lib.hid hb
  clear hn hL hm hpn hpm hp hs hb
  go_enter Tryz.func33, Tryz.ntmps33
  go_upto_region 1 with fail
  refine to_cls ?_
  intro U0 hU0 y0
  have r_p : ∀ z : Wb U0, Row z.at w.heap.size [.int .i64 0, .int .i64 0] 39 := Row.next (Row.new _ [.int .i64 0, .int .i64 0] _) hU0
  have KK := Lib.hid (KB.next (KB.alloc (Below.refl w.heap.size w) _) hU0)
  clear hU0
  have c_0 := fun z : Wb U0 => (r_p z).cell 0
  have c_1 := fun z : Wb U0 => (r_p z).cell 1
  have c_f := fun (z : Wb U0) (i : Nat) => (r_p z).free i
  simp only [List.getElem?_cons_zero, List.getElem?_cons_succ] at c_0 c_1
  have LT := Lib.hid (fun z : Wb U0 => (r_p z).lt)
  clear r_p
  obtain ⟨pA, hpA⟩ : ∃ b, b = w.heap.size := ⟨_, rfl⟩
  have PA := Lib.hid (show w.heap.size ≤ pA by omega)
  rw [← hpA] at c_0 c_1 c_f LT
  simp only [← hpA]
  clear hpA
  go_wp2_with fail
  go_loopw [12] (fun iv wr => ∃ (i : Nat) (z : Wb U0), i ≤ n ∧ iv = .int .i64 (i : Int) ∧ (∀ j, j < i → codeF encB L h j = 0) ∧ wr = z.at) (fun iv _ => n - (intOf iv).toNat)
  case atStart => exact ⟨0, y0, by omega, rfl, fun j h2 => by omega, rfl⟩
  case round =>
    obtain ⟨i, z, hi, rfl, hall, rfl⟩ := hrel
    have HA := Lib.hid hall
    clear hall
    have i0 : (0 : Int) ≤ (i : Int) := by omega
    by_cases ci : i < n
    · have l1 : i < L.length := by have := N.out; omega
      obtain ⟨a, rfl, c0, c1, c2, c3, c4, c5⟩ := XL.out i l1
      have IL := Lib.hid (show i + 1 ≤ n by omega)
      have g1 : (i : Int) < (n : Int) := by omega
      have CF := Lib.hid (codeF_at encB L h i l1)
      have BD := HB.out _ (List.getElem_mem l1)
      obtain ⟨x, hx⟩ : ∃ x, x = L[i]'l1 := ⟨_, rfl⟩
      rw [← hx] at c0 c1 c2 c3 c4 c5 CF BD
      obtain ⟨op, d, nn, m, imm, kind⟩ := x
      simp only at c0 c1 c2 c3 c4 c5 BD
      have NN := Lib.hid (show codeF encB L h i = instrS (encB ⟨op, d, nn, m, imm, kind⟩) op imm ((n : Int) - (i : Int)) h by rw [CF.out, N.out])
      have bk := fun y : Wb U0 => (KK.out y)
      have e0 : ∀ y : Wb U0, y.at.cell? (a.add (i * 6)) = some (.int .i64 op) := fun y => keep_below (bk y) _ _ c0
      have e1 : ∀ y : Wb U0, y.at.cell? ⟨(a.add (i * 6)).block, (a.add (i * 6)).off + 1, none⟩ = some (.int .i64 d) := fun y => keep_below (bk y) _ _ c1
      have e2 : ∀ y : Wb U0, y.at.cell? ⟨(a.add (i * 6)).block, (a.add (i * 6)).off + 2, none⟩ = some (.int .i64 nn) := fun y => keep_below (bk y) _ _ c2
      have e3 : ∀ y : Wb U0, y.at.cell? ⟨(a.add (i * 6)).block, (a.add (i * 6)).off + 3, none⟩ = some (.int .i64 m) := fun y => keep_below (bk y) _ _ c3
      have e4 : ∀ y : Wb U0, y.at.cell? ⟨(a.add (i * 6)).block, (a.add (i * 6)).off + 4, none⟩ = some (.int .i64 imm) := fun y => keep_below (bk y) _ _ c4
      have e5 : ∀ y : Wb U0, y.at.cell? ⟨(a.add (i * 6)).block, (a.add (i * 6)).off + 5, none⟩ = some (.int .i64 kind) := fun y => keep_below (bk y) _ _ c5
      have W1 : IntKind.i64.wrap ((i : Int) + 1) = (i : Int) + 1 := IntWalk.i64_in _ ⟨by omega, by omega⟩
      have W2 : IntKind.i64.wrap ((n : Int) - (i : Int)) = (n : Int) - (i : Int) := IntWalk.i64_in _ ⟨by omega, by omega⟩
      have CC := Lib.hid (fun (U : World) (b : Below w.heap.size w U) => IC.out U b op d nn m imm kind ((n : Int) - (i : Int)) BD.1 BD.2)
      obtain ⟨v, hv⟩ : ∃ v, v = instrS (encB ⟨op, d, nn, m, imm, kind⟩) op imm ((n : Int) - (i : Int)) h := ⟨_, rfl⟩
      rw [← hv] at CC NN
      clear c0 c1 c2 c3 c4 c5 hx hi bk CF BD hv
      go_upto_region 4 with fail
      refine to_cls ?_
      intro U1 hU1 y1
      have r_x : ∀ q : Wb U1, Row q.at z.at.heap.size [.int .i64 op, .int .i64 d, .int .i64 nn, .int .i64 m, .int .i64 imm, .int .i64 kind] 84 := Row.next (Row.new _ [.int .i64 op, .int .i64 d, .int .i64 nn, .int .i64 m, .int .i64 imm, .int .i64 kind] _) hU1
      have K1 := Lib.hid (fun q : Wb U1 => ((KB.alloc (Below.refl z.at.heap.size z.at) _).trans ((hU1.mono (by simp)).trans (q.bel.mono (Nat.le_trans (by simp) hU1.size)))))
      have K2 := Lib.hid (fun q : Wb U1 => (KK.out z).trans ((K1.out q).mono (KK.out z).size))
      have p_0 := fun q : Wb U1 => keep_below (K1.out q) _ _ (c_0 z)
      have p_1 := fun q : Wb U1 => keep_below (K1.out q) _ _ (c_1 z)
      have p_f := fun (q : Wb U1) (k : Nat) => ((K1.out q).frozen (p := ⟨pA, k, none⟩) (LT.out z)).trans (c_f z k)
      clear hU1
      have d0 := fun q : Wb U1 => (r_x q).cell 0
      have d1 := fun q : Wb U1 => (r_x q).cell 1
      have d2 := fun q : Wb U1 => (r_x q).cell 2
      have d3 := fun q : Wb U1 => (r_x q).cell 3
      have d4 := fun q : Wb U1 => (r_x q).cell 4
      have d5 := fun q : Wb U1 => (r_x q).cell 5
      simp only [List.getElem?_cons_zero, List.getElem?_cons_succ] at d0 d1 d2 d3 d4 d5
      clear r_x e0 e1 e2 e3 e4 e5
      obtain ⟨pX, hpX⟩ : ∃ b, b = z.at.heap.size := ⟨_, rfl⟩
      rw [← hpX] at d0 d1 d2 d3 d4 d5
      simp only [← hpX]
      clear hpX
      go_wp2_with fail
      refine (CC.out _ (K2.out _)).mono ?_
      rintro e w2 ⟨rfl, b⟩
      obtain ⟨y2, rfl⟩ := Wb.next b
      clear b
      by_cases ev : v = 0
      · subst ev
        have NX := Lib.hid (show ∀ j, j < i + 1 → codeF encB L h j = 0 from fun j h2 => by
          by_cases ej : j = i
          · subst ej; exact NN.out
          · exact HA.out j (by omega))
        clear ci
        go_wp2_with fail
        go_roundw
        case rel => exact ⟨i + 1, ⟨y2.at, z.bel.trans ((K1.out y2).mono z.size)⟩, IL.out, by go_num, NX.out, rfl⟩
        case measure => have := IL.out; simp [intOf] <;> omega
      · have nz : (v != 0) = true := by simpa using ev
        have R := Lib.hid (show ans (firstF (codeF encB L h) L.length) PL = (v, plc PL i) by
          rw [first_some (i := i) (by have := N.out; omega) HA.out (by rw [NN.out]; exact ev), NN.out]; rfl)
        have PB := Lib.hid (fun U => problem_any v (plc PL i) U)
        have E := Lib.hid (show pbV (pbS v (plc PL i)) = .agg #[.int .i64 v, .int .i64 (plc PL i)] by simp [pbV, pbS, ev])
        have PB := Lib.hid (show ∀ U, Calls Tryz.prog 14 #[.int .i64 v, .int .i64 (plc PL i)] U fun x w' => x = .returned (.agg #[.int .i64 v, .int .i64 (plc PL i)]) ∧ Below U.heap.size U w' from fun U => E.out ▸ PB.out U)
        clear E ci ev
        obtain ⟨pv, hpv⟩ : ∃ k, k = plc PL i := ⟨_, rfl⟩
        rw [← hpv] at R PB
        have PC := Lib.hid (show ∀ (U : World), Below w.heap.size w U → Calls Tryz.prog 15 #[.slice pp np cp, .int .i64 (i : Int)] U fun e w' => e = .returned (.int .i64 pv) ∧ U = w' from fun U b => by rw [hpv]; exact PC.out U b i)
        clear hpv
        go_wp2_with fail
        refine (PC.out _ (K2.out _)).mono ?_
        rintro e w3 ⟨rfl, rfl⟩
        go_wp2_with fail
        refine (PB.out _).mono ?_
        rintro e w4 ⟨rfl, b⟩
        obtain ⟨y4, rfl⟩ := Wb.next b
        clear b
        go_wp2
        refine bodyPost_ret (v := .agg #[.int .i64 v, .int .i64 pv]) (by simp [results, Tryz.results33, go_sem, *]) rfl ⟨by rw [R.out]; rfl, ?_⟩
        repeat' (first | (with_reducible exact K2.out _) | (with_reducible refine Below.setCell ?_ ?_ _) | (with_reducible exact PA.out))
    · have g1 : ¬ (i : Int) < (n : Int) := by omega
      have R := Lib.hid (show ans (firstF (codeF encB L h) L.length) PL = (0, 0) by rw [first_none fun j hj => HA.out j (by have := N.out; omega)]; rfl)
      clear ci hi
      go_wp2
      refine bodyPost_ret (v := .agg #[.int .i64 0, .int .i64 0]) (by simp [results, Tryz.results33, go_sem, *]) rfl ⟨by rw [R.out]; rfl, ?_⟩
      repeat' (first | (with_reducible exact KK.out _) | (with_reducible refine Below.setCell ?_ ?_ _) | (with_reducible exact PA.out))
end Go.Proofs.YtlflknfkenfpiaaGreatDoor
namespace GrN
def ansO (o : Option (Nat × Int)) (PL : List Int) (off : Nat) : Int × Int := match o with
  | none => (0, 0)
  | some (i, c) => (c, plc PL (off + i))
theorem plc_drop (PL : List Int) (a j : Nat) : plc (PL.drop (min a PL.length)) j = plc PL (a + j) := by
  unfold plc
  by_cases h : a ≤ PL.length
  · rw [Nat.min_eq_left h]
    simp [List.getD_eq_getElem?_getD, List.getElem?_drop]
  · rw [Nat.min_eq_right (by omega)]
    rw [List.drop_length, List.getD_eq_getElem?_getD, List.getD_eq_getElem?_getD, List.getElem?_eq_none (by simp), List.getElem?_eq_none (by omega)]
theorem ans_drop (o : Option (Nat × Int)) (PL : List Int) (a : Nat) : ans o (PL.drop (min a PL.length)) = ansO o PL a := by
  unfold ans ansO
  cases o with
  | none => rfl
  | some x => simp only [plc_drop]
def coreS (rt : GrI.I → Bool) (c : K) (tabs : List Int) (at_ : Int) (PL : List Int) : Int × Int :=
  if baseB c.tab = false then (133, at_) else if decide (c.tab ∈ tabs) = false then (131, at_) else if c.space < 0 ∨ 65535 < c.space then (1, at_)
  else if 16 < c.code.length then (136, plc PL 16) else if 16 < c.hand.length then (136, plc PL (c.code.length + 16))
  else if (ans (firstF (codeF rt c.code false) c.code.length) PL).1 ≠ 0 then ans (firstF (codeF rt c.code false) c.code.length) PL
  else ansO (firstF (codeF rt c.hand true) c.hand.length) PL c.code.length
end GrN
namespace Go.Proofs.YtlflknfkenfpiaaGreatDoor
open Go.RowKit GrN
def PsAt (W : World) (p : Option Addr) (L : List (List Int)) : Prop := ∀ i (h : i < L.length), ∃ a q c, p = some a ∧ W.cell? (a.add i) = some (.slice q (L[i]'h).length c) ∧ (L[i]'h).length ≤ c ∧ c ≤ maxLen ∧ NAt .i64 W q (L[i]'h)
theorem PsAt.below {W U : World} {p : Option Addr} {L : List (List Int)} (h : PsAt W p L) (b : Below W.heap.size W U) : PsAt U p L := fun j hj => by
  obtain ⟨a, q, c, e, c0, h1, h2, x⟩ := h j hj
  exact ⟨a, q, c, e, keep_below b _ _ c0, h1, h2, x.below b⟩
theorem NAt.nil (k : IntKind) (W : World) (p : Option Addr) : NAt k W p [] := fun j h => by simp at h
theorem NAt.drop {k : IntKind} {W : World} {p : Option Addr} {L : List Int} {c l : Nat} (h : NAt k W p L) (hc : L.length ≤ c) (hl : l ≤ L.length) : NAt k W (if c = l then p else p.map (·.add l)) (L.drop l) := fun j hj => by
  simp only [List.length_drop] at hj
  obtain ⟨a, rfl, e⟩ := h (l + j) (by omega)
  rw [if_neg (by omega)]
  refine ⟨a.add l, rfl, ?_⟩
  rw [add_add, e, List.getElem_drop]
end Go.Proofs.YtlflknfkenfpiaaGreatDoor
namespace GrN
def firstP (f : Nat → Int × Int) (n : Nat) : Int × Int := match firstF (fun i => (f i).1) n with
  | none => (0, 0)
  | some (i, _) => f i
theorem firstP_none {f : Nat → Int × Int} {n : Nat} (h : ∀ j, j < n → (f j).1 = 0) : firstP f n = (0, 0) := by
  unfold firstP
  rw [first_none h]
theorem firstP_some {f : Nat → Int × Int} {n i : Nat} (hi : i < n) (h : ∀ j, j < i → (f j).1 = 0) (h2 : (f i).1 ≠ 0) : firstP f n = f i := by
  unfold firstP
  rw [first_some hi h h2]
def coreF (rt : GrI.I → Bool) (Ks : List K) (TS PK : List Int) (PI : List (List Int)) (i : Nat) : Int × Int := match Ks[i]? with
  | some c => coreS rt c TS (plc PK i) (PI.getD i [])
  | none => (0, 0)
theorem coreF_at (rt : GrI.I → Bool) (Ks : List K) (TS PK : List Int) (PI : List (List Int)) (i : Nat) (h : i < Ks.length) : coreF rt Ks TS PK PI i = coreS rt Ks[i] TS (plc PK i) (PI.getD i []) := by
  unfold coreF
  rw [List.getElem?_eq_getElem h]
end GrN
namespace Go.Proofs.YtlflknfkenfpiaaGreatDoor
open Go.RowKit GrN
def checkS (A B : Int × Int) (nk : Nat) (p4 : Int) (cf : Nat → Int × Int) (ev p0 rc qa : Int) : Int × Int :=
  if A.1 ≠ 0 then A else if B.1 ≠ 0 then B else if nk = 0 ∨ 4 < nk then (135, p4)
  else if (firstP cf nk).1 ≠ 0 then firstP cf nk else if 64 < ev then (137, p0) else pbS rc qa
end Go.Proofs.YtlflknfkenfpiaaGreatDoor
