/-
  Layer 5, the walks: Where, Taken, Do.
-/
import Derived.Test.YtnehdgapcgbdeaaGc
set_option linter.unusedSimpArgs false
set_option linter.unusedVariables false
namespace GrG
open Go
def whereV (X : List Int) (n imm : Int) : Int := IntKind.u64.wrap (getL X n + IntKind.u64.wrap imm)
def takenB (op kind : Int) (X : List Int) (s : Bool) (d : Int) : Bool := if op = 14 then true else if op = 15 then getL X d == 0 else if op = 16 then getL X d != 0 else if op = 17 then s == (kind == 0) else false
/-- does an operation set a register? -/
def doesB (op : Int) : Bool := decide (6 ≤ op ∧ op ≤ 13 ∨ op = 23)
def doV (op : Int) (a b : Int) (Y : List Int) (imm kind : Int) : Int :=
  if op = 6 then imm * (65536 ^ kind.toNat : Nat) else if op = 7 then IntKind.u64.wrap (a + IntKind.u64.wrap imm) else if op = 8 then IntKind.u64.wrap (a + b) else if op = 10 then bits .and .u64 a b else if op = 11 then bits .or .u64 a b else if op = 12 then bits .xor .u64 a b else if op = 23 then Y.getD kind.toNat 0 else IntKind.u64.wrap (a - b)
def doX (op d n m imm kind : Int) (X Y : List Int) : List Int := if doesB op = true then setL X d (doV op (getL X n) (getL X m) Y imm kind) else X
def doS (op n m : Int) (X : List Int) (s : Bool) : Bool := if op = 13 then getL X n == getL X m else s
end GrG
namespace Go.Proofs.Ytnehdgapcgbdeaa
open Go.RowKit
theorem ibox6 (w : World) (op d n m imm kind : Int) (W : World) (hW : W = w.alloc (.cells #[.int .i64 op, .int .i64 d, .int .i64 n, .int .i64 m, .int .i64 imm, .int .i64 kind] 23)) :
    (∀ x : Wb W, x.at.cell? ⟨w.heap.size, 0, none⟩ = some (.int .i64 op)) ∧ (∀ x : Wb W, x.at.cell? ⟨w.heap.size, 1, none⟩ = some (.int .i64 d)) ∧ (∀ x : Wb W, x.at.cell? ⟨w.heap.size, 2, none⟩ = some (.int .i64 n)) ∧
    (∀ x : Wb W, x.at.cell? ⟨w.heap.size, 3, none⟩ = some (.int .i64 m)) ∧ (∀ x : Wb W, x.at.cell? ⟨w.heap.size, 4, none⟩ = some (.int .i64 imm)) ∧ (∀ x : Wb W, x.at.cell? ⟨w.heap.size, 5, none⟩ = some (.int .i64 kind)) ∧ (∀ x : Wb W, Below w.heap.size w x.at) := by
  subst hW
  refine ⟨fun x => ?_, fun x => ?_, fun x => ?_, fun x => ?_, fun x => ?_, fun x => ?_, fun x => ?_⟩
  case refine_7 => exact ((Below.refl _ _).alloc (Nat.le_refl _) _).trans (x.bel.mono (by simp))
  all_goals
    rw [x.cell _ (by simp)]
    simp [World.cell?_alloc_new]
theorem get_below (B : Nat) (X Y : List Int) (s : Bool) (n : Int) (w : World) (h : FAt w B X s Y) :
    Calls Try.prog 25 #[.pointer (some ⟨B, 0, none⟩), .int .i64 n] w fun e w' => e = .returned (.int .u64 (GrG.getL X n)) ∧ Below w.heap.size w w' :=
  Calls.same_below (get_any B X Y s n w h) (Below.refl _ _)

set_option maxHeartbeats 1600000 in
theorem where_any (B : Nat) (X Y : List Int) (s : Bool) (op d n m imm kind : Int) (w : World) (h : FAt w B X s Y) :
    Calls Try.prog 42 #[.pointer (some ⟨B, 0, none⟩), .agg #[.int .i64 op, .int .i64 d, .int .i64 n, .int .i64 m, .int .i64 imm, .int .i64 kind]] w fun e w' => e = .returned (.int .u64 (GrG.whereV X n imm)) ∧ Below w.heap.size w w' := by
  have H := Lib.hid h
  obtain ⟨a0, a1, a2, a3, a4, a5, kb⟩ := ibox6 w op d n m imm kind _ rfl
  have KB := Lib.hid kb
  have KF := Lib.hid (fun (x : Wb (w.alloc (.cells #[.int .i64 op, .int .i64 d, .int .i64 n, .int .i64 m, .int .i64 imm, .int .i64 kind] 23))) => h.below (kb x))
  clear h kb
  have E := Lib.hid (show GrG.whereV X n imm = IntKind.u64.wrap (GrG.getL X n + IntKind.u64.wrap imm) from rfl)
  go_enter Try.func42, Try.ntmps42
  go_wp2_with fail
  refine wp_region_wb (by kernel_rfl) (by kernel_rfl) ?_
  repeat (go_big_quiet_step ((go_at_call 25; exact Calls.wb (get_below B X Y s n _ (KF.out _)))))
  refine wpQuiet_nil ?_
  rintro _ ⟨x1, rfl⟩
  go_wp2
  go_ret
  exact ⟨ret_u (by rw [E.out]), KB.out x1⟩

set_option maxHeartbeats 1600000 in
theorem taken_14 (B : Nat) (X Y : List Int) (s : Bool) (d n m imm kind : Int) (w : World) (h : FAt w B X s Y) :
    Calls Try.prog 31 #[.pointer (some ⟨B, 0, none⟩), .agg #[.int .i64 14, .int .i64 d, .int .i64 n, .int .i64 m, .int .i64 imm, .int .i64 kind]] w fun e w' => e = .returned (.bool (GrG.takenB 14 kind X s d)) ∧ Below w.heap.size w w' := by
  have H := Lib.hid h
  obtain ⟨a0, a1, a2, a3, a4, a5, kb⟩ := ibox6 w 14 d n m imm kind _ rfl
  have KB := Lib.hid kb
  have KF := Lib.hid (fun (x : Wb (w.alloc (.cells #[.int .i64 14, .int .i64 d, .int .i64 n, .int .i64 m, .int .i64 imm, .int .i64 kind] 23))) => h.below (kb x))
  clear h kb
  go_enter Try.func31, Try.ntmps31
  go_wp2
  go_ret
  exact ⟨rfl, KB.out ⟨_, Below.refl _ _⟩⟩

set_option maxHeartbeats 1600000 in
theorem taken_15 (B : Nat) (X Y : List Int) (s : Bool) (d n m imm kind : Int) (w : World) (h : FAt w B X s Y) :
    Calls Try.prog 31 #[.pointer (some ⟨B, 0, none⟩), .agg #[.int .i64 15, .int .i64 d, .int .i64 n, .int .i64 m, .int .i64 imm, .int .i64 kind]] w fun e w' => e = .returned (.bool (GrG.takenB 15 kind X s d)) ∧ Below w.heap.size w w' := by
  have H := Lib.hid h
  obtain ⟨a0, a1, a2, a3, a4, a5, kb⟩ := ibox6 w 15 d n m imm kind _ rfl
  have KB := Lib.hid kb
  have KF := Lib.hid (fun (x : Wb (w.alloc (.cells #[.int .i64 15, .int .i64 d, .int .i64 n, .int .i64 m, .int .i64 imm, .int .i64 kind] 23))) => h.below (kb x))
  clear h kb
  have E := Lib.hid (show GrG.takenB 15 kind X s d = (GrG.getL X d == 0) from rfl)
  have b0 := a0 ⟨_, Below.refl _ _⟩
  have b1 := a1 ⟨_, Below.refl _ _⟩
  go_enter Try.func31, Try.ntmps31
  go_wp2_with (go_at_call 25; refine (get_any B X Y s d _ (KF.out ⟨_, Below.refl _ _⟩)).mono ?_; rintro e w1 ⟨rfl, rfl⟩)
  go_ret
  exact ⟨ret_bb (by rw [E.out]), KB.out ⟨_, Below.refl _ _⟩⟩

set_option maxHeartbeats 1600000 in
theorem taken_16 (B : Nat) (X Y : List Int) (s : Bool) (d n m imm kind : Int) (w : World) (h : FAt w B X s Y) :
    Calls Try.prog 31 #[.pointer (some ⟨B, 0, none⟩), .agg #[.int .i64 16, .int .i64 d, .int .i64 n, .int .i64 m, .int .i64 imm, .int .i64 kind]] w fun e w' => e = .returned (.bool (GrG.takenB 16 kind X s d)) ∧ Below w.heap.size w w' := by
  have H := Lib.hid h
  obtain ⟨a0, a1, a2, a3, a4, a5, kb⟩ := ibox6 w 16 d n m imm kind _ rfl
  have KB := Lib.hid kb
  have KF := Lib.hid (fun (x : Wb (w.alloc (.cells #[.int .i64 16, .int .i64 d, .int .i64 n, .int .i64 m, .int .i64 imm, .int .i64 kind] 23))) => h.below (kb x))
  clear h kb
  have E := Lib.hid (show GrG.takenB 16 kind X s d = (GrG.getL X d != 0) from rfl)
  have b0 := a0 ⟨_, Below.refl _ _⟩
  have b1 := a1 ⟨_, Below.refl _ _⟩
  go_enter Try.func31, Try.ntmps31
  go_wp2_with (go_at_call 25; refine (get_any B X Y s d _ (KF.out ⟨_, Below.refl _ _⟩)).mono ?_; rintro e w1 ⟨rfl, rfl⟩)
  go_ret
  exact ⟨ret_bb (by rw [E.out]), KB.out ⟨_, Below.refl _ _⟩⟩

set_option maxHeartbeats 1600000 in
theorem taken_17 (B : Nat) (X Y : List Int) (s : Bool) (d n m imm kind : Int) (w : World) (h : FAt w B X s Y) :
    Calls Try.prog 31 #[.pointer (some ⟨B, 0, none⟩), .agg #[.int .i64 17, .int .i64 d, .int .i64 n, .int .i64 m, .int .i64 imm, .int .i64 kind]] w fun e w' => e = .returned (.bool (GrG.takenB 17 kind X s d)) ∧ Below w.heap.size w w' := by
  have H := Lib.hid h
  obtain ⟨a0, a1, a2, a3, a4, a5, kb⟩ := ibox6 w 17 d n m imm kind _ rfl
  have KB := Lib.hid kb
  have KF := Lib.hid (fun (x : Wb (w.alloc (.cells #[.int .i64 17, .int .i64 d, .int .i64 n, .int .i64 m, .int .i64 imm, .int .i64 kind] 23))) => h.below (kb x))
  clear h kb
  have E := Lib.hid (show GrG.takenB 17 kind X s d = (s == (kind == 0)) from rfl)
  have e1 : ∀ x : Wb (w.alloc (.cells #[.int .i64 17, .int .i64 d, .int .i64 n, .int .i64 m, .int .i64 imm, .int .i64 kind] 23)), x.at.cell? ⟨B, 31, none⟩ = some (.bool s) := fun x => (KF.out x).same
  go_enter Try.func31, Try.ntmps31
  go_wp2_with fail
  refine wp_region_wb (by kernel_rfl) (by kernel_rfl) ?_
  repeat (go_big_quiet_step (fail))
  refine wpQuiet_nil ?_
  rintro _ ⟨x1, rfl⟩
  go_wp2
  go_ret
  exact ⟨ret_bb (by rw [E.out]), KB.out x1⟩

set_option maxHeartbeats 1600000 in
theorem taken_no (B : Nat) (X Y : List Int) (s : Bool) (op d n m imm kind : Int) (w : World) (h : FAt w B X s Y) (n1 : (op == 14) = false) (n2 : (op == 15) = false) (n3 : (op == 16) = false) (n4 : (op == 17) = false) :
    Calls Try.prog 31 #[.pointer (some ⟨B, 0, none⟩), .agg #[.int .i64 op, .int .i64 d, .int .i64 n, .int .i64 m, .int .i64 imm, .int .i64 kind]] w fun e w' => e = .returned (.bool (GrG.takenB op kind X s d)) ∧ Below w.heap.size w w' := by
  have H := Lib.hid h
  obtain ⟨a0, a1, a2, a3, a4, a5, kb⟩ := ibox6 w op d n m imm kind _ rfl
  have KB := Lib.hid kb
  have KF := Lib.hid (fun (x : Wb (w.alloc (.cells #[.int .i64 op, .int .i64 d, .int .i64 n, .int .i64 m, .int .i64 imm, .int .i64 kind] 23))) => h.below (kb x))
  have E := Lib.hid (show GrG.takenB op kind X s d = false by simp at n1 n2 n3 n4; simp [GrG.takenB, n1, n2, n3, n4])
  clear h kb
  go_enter Try.func31, Try.ntmps31
  go_wp2
  go_ret
  exact ⟨ret_bb (by rw [E.out]), KB.out ⟨_, Below.refl _ _⟩⟩

theorem taken_any (B : Nat) (X Y : List Int) (s : Bool) (op d n m imm kind : Int) (w : World) (h : FAt w B X s Y) :
    Calls Try.prog 31 #[.pointer (some ⟨B, 0, none⟩), .agg #[.int .i64 op, .int .i64 d, .int .i64 n, .int .i64 m, .int .i64 imm, .int .i64 kind]] w fun e w' => e = .returned (.bool (GrG.takenB op kind X s d)) ∧ Below w.heap.size w w' := by
  by_cases n1 : op = 14
  · subst n1; exact taken_14 B X Y s d n m imm kind w h
  · by_cases n2 : op = 15
    · subst n2; exact taken_15 B X Y s d n m imm kind w h
    · by_cases n3 : op = 16
      · subst n3; exact taken_16 B X Y s d n m imm kind w h
      · by_cases n4 : op = 17
        · subst n4; exact taken_17 B X Y s d n m imm kind w h
        · exact taken_no B X Y s op d n m imm kind w h (by simpa using n1) (by simpa using n2) (by simpa using n3) (by simpa using n4)

/-- what Do leaves -/
def DoPost (B : Nat) (X Y : List Int) (s : Bool) (op d n m imm kind : Int) (w : World) (e : Ending) (w' : World) : Prop :=
  e = .returned (.tuple #[]) ∧ Only B w w' ∧ FAt w' B (GrG.doX op d n m imm kind X Y) (GrG.doS op n m X s) Y
set_option maxRecDepth 100000 in
set_option maxHeartbeats 3200000 in
theorem do_8 (B : Nat) (X Y : List Int) (s : Bool) (d n m imm kind : Int) (w : World) (h : FAt w B X s Y) :
    Calls Try.prog 30 #[.pointer (some ⟨B, 0, none⟩), .agg #[.int .i64 8, .int .i64 d, .int .i64 n, .int .i64 m, .int .i64 imm, .int .i64 kind]] w (DoPost B X Y s 8 d n m imm kind w) := by
  have H := Lib.hid h
  obtain ⟨a0, a1, a2, a3, a4, a5, kb⟩ := ibox6 w 8 d n m imm kind _ rfl
  have KB := Lib.hid kb
  have KF := Lib.hid (fun (x : Wb (w.alloc (.cells #[.int .i64 8, .int .i64 d, .int .i64 n, .int .i64 m, .int .i64 imm, .int .i64 kind] 23))) => h.below (kb x))
  clear h kb
  obtain ⟨a, ha⟩ : ∃ a, a = GrG.getL X n := ⟨_, rfl⟩
  obtain ⟨b, hb⟩ : ∃ b, b = GrG.getL X m := ⟨_, rfl⟩
  have GA := Lib.hid (fun w h => ha ▸ get_below B X Y s n w h)
  have GB := Lib.hid (fun w h => hb ▸ get_below B X Y s m w h)
  have HA := Lib.hid ha
  have HB := Lib.hid hb
  clear ha hb
  go_enter Try.func30, Try.ntmps30
  go_wp2_with fail
  refine wp_region_wb (by kernel_rfl) (by kernel_rfl) ?_
  repeat (go_big_quiet_step (first | (go_at_call 25; with_reducible exact Calls.wb (x := _) (GA.out _ (KF.out _))) | (go_at_call 25; with_reducible exact Calls.wb (x := _) (GB.out _ (KF.out _)))))
  refine wpQuiet_nil ?_
  rintro _ ⟨x1, rfl⟩
  go_wp2_with fail
  refine (set_any B X Y s d (IntKind.u64.wrap (a + b)) _ (KF.out _)).mono ?_
  rintro e w2 ⟨rfl, o2, f2⟩
  have O2 := Lib.hid o2
  have F2 := Lib.hid f2
  clear o2 f2
  go_wp2
  go_end0
  exact ⟨rfl, (Only.of_below (KB.out x1)).trans O2.out, by rw [GrG.doX, GrG.doS]; simp [GrG.doesB, GrG.doV, ← HA.out, ← HB.out]; exact F2.out⟩

set_option maxRecDepth 100000 in
set_option maxHeartbeats 3200000 in
theorem do_9 (B : Nat) (X Y : List Int) (s : Bool) (d n m imm kind : Int) (w : World) (h : FAt w B X s Y) :
    Calls Try.prog 30 #[.pointer (some ⟨B, 0, none⟩), .agg #[.int .i64 9, .int .i64 d, .int .i64 n, .int .i64 m, .int .i64 imm, .int .i64 kind]] w (DoPost B X Y s 9 d n m imm kind w) := by
  have H := Lib.hid h
  obtain ⟨a0, a1, a2, a3, a4, a5, kb⟩ := ibox6 w 9 d n m imm kind _ rfl
  have KB := Lib.hid kb
  have KF := Lib.hid (fun (x : Wb (w.alloc (.cells #[.int .i64 9, .int .i64 d, .int .i64 n, .int .i64 m, .int .i64 imm, .int .i64 kind] 23))) => h.below (kb x))
  clear h kb
  obtain ⟨a, ha⟩ : ∃ a, a = GrG.getL X n := ⟨_, rfl⟩
  obtain ⟨b, hb⟩ : ∃ b, b = GrG.getL X m := ⟨_, rfl⟩
  have GA := Lib.hid (fun w h => ha ▸ get_below B X Y s n w h)
  have GB := Lib.hid (fun w h => hb ▸ get_below B X Y s m w h)
  have HA := Lib.hid ha
  have HB := Lib.hid hb
  clear ha hb
  go_enter Try.func30, Try.ntmps30
  go_wp2_with fail
  refine wp_region_wb (by kernel_rfl) (by kernel_rfl) ?_
  repeat (go_big_quiet_step (first | (go_at_call 25; with_reducible exact Calls.wb (x := _) (GA.out _ (KF.out _))) | (go_at_call 25; with_reducible exact Calls.wb (x := _) (GB.out _ (KF.out _)))))
  refine wpQuiet_nil ?_
  rintro _ ⟨x1, rfl⟩
  go_wp2_with fail
  refine (set_any B X Y s d (IntKind.u64.wrap (a - b)) _ (KF.out _)).mono ?_
  rintro e w2 ⟨rfl, o2, f2⟩
  have O2 := Lib.hid o2
  have F2 := Lib.hid f2
  clear o2 f2
  go_wp2
  go_end0
  exact ⟨rfl, (Only.of_below (KB.out x1)).trans O2.out, by rw [GrG.doX, GrG.doS]; simp [GrG.doesB, GrG.doV, ← HA.out, ← HB.out]; exact F2.out⟩

set_option maxRecDepth 100000 in
set_option maxHeartbeats 3200000 in
theorem do_10 (B : Nat) (X Y : List Int) (s : Bool) (d n m imm kind : Int) (w : World) (h : FAt w B X s Y) :
    Calls Try.prog 30 #[.pointer (some ⟨B, 0, none⟩), .agg #[.int .i64 10, .int .i64 d, .int .i64 n, .int .i64 m, .int .i64 imm, .int .i64 kind]] w (DoPost B X Y s 10 d n m imm kind w) := by
  have H := Lib.hid h
  obtain ⟨a0, a1, a2, a3, a4, a5, kb⟩ := ibox6 w 10 d n m imm kind _ rfl
  have KB := Lib.hid kb
  have KF := Lib.hid (fun (x : Wb (w.alloc (.cells #[.int .i64 10, .int .i64 d, .int .i64 n, .int .i64 m, .int .i64 imm, .int .i64 kind] 23))) => h.below (kb x))
  clear h kb
  obtain ⟨a, ha⟩ : ∃ a, a = GrG.getL X n := ⟨_, rfl⟩
  obtain ⟨b, hb⟩ : ∃ b, b = GrG.getL X m := ⟨_, rfl⟩
  have GA := Lib.hid (fun w h => ha ▸ get_below B X Y s n w h)
  have GB := Lib.hid (fun w h => hb ▸ get_below B X Y s m w h)
  have HA := Lib.hid ha
  have HB := Lib.hid hb
  clear ha hb
  go_enter Try.func30, Try.ntmps30
  go_wp2_with fail
  refine wp_region_wb (by kernel_rfl) (by kernel_rfl) ?_
  repeat (go_big_quiet_step (first | (go_at_call 25; with_reducible exact Calls.wb (x := _) (GA.out _ (KF.out _))) | (go_at_call 25; with_reducible exact Calls.wb (x := _) (GB.out _ (KF.out _)))))
  refine wpQuiet_nil ?_
  rintro _ ⟨x1, rfl⟩
  go_wp2_with fail
  refine (set_any B X Y s d (bits .and .u64 a b) _ (KF.out _)).mono ?_
  rintro e w2 ⟨rfl, o2, f2⟩
  have O2 := Lib.hid o2
  have F2 := Lib.hid f2
  clear o2 f2
  go_wp2
  go_end0
  exact ⟨rfl, (Only.of_below (KB.out x1)).trans O2.out, by rw [GrG.doX, GrG.doS]; simp [GrG.doesB, GrG.doV, ← HA.out, ← HB.out]; exact F2.out⟩

set_option maxRecDepth 100000 in
set_option maxHeartbeats 3200000 in
theorem do_11 (B : Nat) (X Y : List Int) (s : Bool) (d n m imm kind : Int) (w : World) (h : FAt w B X s Y) :
    Calls Try.prog 30 #[.pointer (some ⟨B, 0, none⟩), .agg #[.int .i64 11, .int .i64 d, .int .i64 n, .int .i64 m, .int .i64 imm, .int .i64 kind]] w (DoPost B X Y s 11 d n m imm kind w) := by
  have H := Lib.hid h
  obtain ⟨a0, a1, a2, a3, a4, a5, kb⟩ := ibox6 w 11 d n m imm kind _ rfl
  have KB := Lib.hid kb
  have KF := Lib.hid (fun (x : Wb (w.alloc (.cells #[.int .i64 11, .int .i64 d, .int .i64 n, .int .i64 m, .int .i64 imm, .int .i64 kind] 23))) => h.below (kb x))
  clear h kb
  obtain ⟨a, ha⟩ : ∃ a, a = GrG.getL X n := ⟨_, rfl⟩
  obtain ⟨b, hb⟩ : ∃ b, b = GrG.getL X m := ⟨_, rfl⟩
  have GA := Lib.hid (fun w h => ha ▸ get_below B X Y s n w h)
  have GB := Lib.hid (fun w h => hb ▸ get_below B X Y s m w h)
  have HA := Lib.hid ha
  have HB := Lib.hid hb
  clear ha hb
  go_enter Try.func30, Try.ntmps30
  go_wp2_with fail
  refine wp_region_wb (by kernel_rfl) (by kernel_rfl) ?_
  repeat (go_big_quiet_step (first | (go_at_call 25; with_reducible exact Calls.wb (x := _) (GA.out _ (KF.out _))) | (go_at_call 25; with_reducible exact Calls.wb (x := _) (GB.out _ (KF.out _)))))
  refine wpQuiet_nil ?_
  rintro _ ⟨x1, rfl⟩
  go_wp2_with fail
  refine (set_any B X Y s d (bits .or .u64 a b) _ (KF.out _)).mono ?_
  rintro e w2 ⟨rfl, o2, f2⟩
  have O2 := Lib.hid o2
  have F2 := Lib.hid f2
  clear o2 f2
  go_wp2
  go_end0
  exact ⟨rfl, (Only.of_below (KB.out x1)).trans O2.out, by rw [GrG.doX, GrG.doS]; simp [GrG.doesB, GrG.doV, ← HA.out, ← HB.out]; exact F2.out⟩

set_option maxRecDepth 100000 in
set_option maxHeartbeats 3200000 in
theorem do_12 (B : Nat) (X Y : List Int) (s : Bool) (d n m imm kind : Int) (w : World) (h : FAt w B X s Y) :
    Calls Try.prog 30 #[.pointer (some ⟨B, 0, none⟩), .agg #[.int .i64 12, .int .i64 d, .int .i64 n, .int .i64 m, .int .i64 imm, .int .i64 kind]] w (DoPost B X Y s 12 d n m imm kind w) := by
  have H := Lib.hid h
  obtain ⟨a0, a1, a2, a3, a4, a5, kb⟩ := ibox6 w 12 d n m imm kind _ rfl
  have KB := Lib.hid kb
  have KF := Lib.hid (fun (x : Wb (w.alloc (.cells #[.int .i64 12, .int .i64 d, .int .i64 n, .int .i64 m, .int .i64 imm, .int .i64 kind] 23))) => h.below (kb x))
  clear h kb
  obtain ⟨a, ha⟩ : ∃ a, a = GrG.getL X n := ⟨_, rfl⟩
  obtain ⟨b, hb⟩ : ∃ b, b = GrG.getL X m := ⟨_, rfl⟩
  have GA := Lib.hid (fun w h => ha ▸ get_below B X Y s n w h)
  have GB := Lib.hid (fun w h => hb ▸ get_below B X Y s m w h)
  have HA := Lib.hid ha
  have HB := Lib.hid hb
  clear ha hb
  go_enter Try.func30, Try.ntmps30
  go_wp2_with fail
  refine wp_region_wb (by kernel_rfl) (by kernel_rfl) ?_
  repeat (go_big_quiet_step (first | (go_at_call 25; with_reducible exact Calls.wb (x := _) (GA.out _ (KF.out _))) | (go_at_call 25; with_reducible exact Calls.wb (x := _) (GB.out _ (KF.out _)))))
  refine wpQuiet_nil ?_
  rintro _ ⟨x1, rfl⟩
  go_wp2_with fail
  refine (set_any B X Y s d (bits .xor .u64 a b) _ (KF.out _)).mono ?_
  rintro e w2 ⟨rfl, o2, f2⟩
  have O2 := Lib.hid o2
  have F2 := Lib.hid f2
  clear o2 f2
  go_wp2
  go_end0
  exact ⟨rfl, (Only.of_below (KB.out x1)).trans O2.out, by rw [GrG.doX, GrG.doS]; simp [GrG.doesB, GrG.doV, ← HA.out, ← HB.out]; exact F2.out⟩

set_option maxRecDepth 100000 in
set_option maxHeartbeats 3200000 in
theorem do_13 (B : Nat) (X Y : List Int) (s : Bool) (d n m imm kind : Int) (w : World) (h : FAt w B X s Y) :
    Calls Try.prog 30 #[.pointer (some ⟨B, 0, none⟩), .agg #[.int .i64 13, .int .i64 d, .int .i64 n, .int .i64 m, .int .i64 imm, .int .i64 kind]] w (DoPost B X Y s 13 d n m imm kind w) := by
  have H := Lib.hid h
  obtain ⟨a0, a1, a2, a3, a4, a5, kb⟩ := ibox6 w 13 d n m imm kind _ rfl
  have KB := Lib.hid kb
  have KF := Lib.hid (fun (x : Wb (w.alloc (.cells #[.int .i64 13, .int .i64 d, .int .i64 n, .int .i64 m, .int .i64 imm, .int .i64 kind] 23))) => h.below (kb x))
  clear h kb
  obtain ⟨a, ha⟩ : ∃ a, a = GrG.getL X n := ⟨_, rfl⟩
  obtain ⟨b, hb⟩ : ∃ b, b = GrG.getL X m := ⟨_, rfl⟩
  have GA := Lib.hid (fun w h => ha ▸ get_below B X Y s n w h)
  have GB := Lib.hid (fun w h => hb ▸ get_below B X Y s m w h)
  have HA := Lib.hid ha
  have HB := Lib.hid hb
  clear ha hb
  go_enter Try.func30, Try.ntmps30
  go_wp2_with fail
  refine wp_region_wb (by kernel_rfl) (by kernel_rfl) ?_
  repeat (go_big_quiet_step (first | (go_at_call 25; with_reducible exact Calls.wb (x := _) (GA.out _ (KF.out _))) | (go_at_call 25; with_reducible exact Calls.wb (x := _) (GB.out _ (KF.out _)))))
  refine wpQuiet_nil ?_
  rintro _ ⟨x1, rfl⟩
  go_wp2_with fail
  refine (set_any B X Y s d (IntKind.u64.wrap (a - b)) _ (KF.out _)).mono ?_
  rintro e w2 ⟨rfl, o2, f2⟩
  have O2 := Lib.hid o2
  have F2 := Lib.hid f2
  clear o2 f2
  have c31 := F2.out.same
  have f31 := F2.out.free 31
  go_wp2
  go_end0
  exact ⟨rfl, ((Only.of_below (KB.out x1)).trans O2.out).trans (Only.set _ _), by rw [GrG.doX, GrG.doS]; simp [GrG.doesB, GrG.doV, ← HA.out, ← HB.out]; exact F2.out.set_same _⟩

set_option maxRecDepth 100000 in
set_option maxHeartbeats 3200000 in
theorem do_7 (B : Nat) (X Y : List Int) (s : Bool) (d n m imm kind : Int) (w : World) (h : FAt w B X s Y) :
    Calls Try.prog 30 #[.pointer (some ⟨B, 0, none⟩), .agg #[.int .i64 7, .int .i64 d, .int .i64 n, .int .i64 m, .int .i64 imm, .int .i64 kind]] w (DoPost B X Y s 7 d n m imm kind w) := by
  have H := Lib.hid h
  obtain ⟨a0, a1, a2, a3, a4, a5, kb⟩ := ibox6 w 7 d n m imm kind _ rfl
  have KB := Lib.hid kb
  have KF := Lib.hid (fun (x : Wb (w.alloc (.cells #[.int .i64 7, .int .i64 d, .int .i64 n, .int .i64 m, .int .i64 imm, .int .i64 kind] 23))) => h.below (kb x))
  clear h kb
  obtain ⟨a, ha⟩ : ∃ a, a = GrG.getL X n := ⟨_, rfl⟩
  obtain ⟨b, hb⟩ : ∃ b, b = GrG.getL X m := ⟨_, rfl⟩
  have GA := Lib.hid (fun w h => ha ▸ get_below B X Y s n w h)
  have GB := Lib.hid (fun w h => hb ▸ get_below B X Y s m w h)
  have HA := Lib.hid ha
  have HB := Lib.hid hb
  clear ha hb
  go_enter Try.func30, Try.ntmps30
  go_wp2_with fail
  refine wp_region_wb (by kernel_rfl) (by kernel_rfl) ?_
  repeat (go_big_quiet_step (first | (go_at_call 25; with_reducible exact Calls.wb (x := _) (GA.out _ (KF.out _))) | (go_at_call 25; with_reducible exact Calls.wb (x := _) (GB.out _ (KF.out _)))))
  refine wpQuiet_nil ?_
  rintro _ ⟨x1, rfl⟩
  have WH := Lib.hid (fun w h => where_any B X Y s 7 d n m imm kind w h)
  have SE := Lib.hid (fun w h => set_any B X Y s d (GrG.whereV X n imm) w h)
  obtain ⟨v, hv⟩ : ∃ v, v = GrG.whereV X n imm := ⟨_, rfl⟩
  rw [← hv] at WH SE
  have HV := Lib.hid hv
  clear hv
  have b0 := x1.lift a0
  have b1 := x1.lift a1
  have b2 := x1.lift a2
  have b3 := x1.lift a3
  have b4 := x1.lift a4
  have b5 := x1.lift a5
  have KX := Lib.hid (fun (y : Wb x1.at) => (KF.out x1).below y.bel)
  go_wp2_with fail
  refine wp_region_wb_tail 6 (by kernel_rfl) (by kernel_rfl) ?_
  simp only [List.take_succ_cons, List.take_zero, List.drop_succ_cons, List.drop_zero]
  repeat (go_big_quiet_step ((go_at_call 42; exact Calls.wb (WH.out _ (KX.out _)))))
  refine wpQuiet_nil ?_
  rintro _ ⟨y1, rfl⟩
  go_wp2_with fail
  refine (SE.out _ (KX.out y1)).mono ?_
  rintro e w2 ⟨rfl, o2, f2⟩
  have O2 := Lib.hid o2
  have F2 := Lib.hid f2
  clear o2 f2
  go_wp2
  go_end0
  exact ⟨rfl, ((Only.of_below (KB.out x1)).trans (Only.of_below y1.bel)).trans O2.out, by rw [GrG.doX, GrG.doS]; simp [GrG.doesB, GrG.doV]; rw [← GrG.whereV, ← HV.out]; exact F2.out⟩

set_option maxRecDepth 100000 in
set_option maxHeartbeats 3200000 in
theorem do_6_0 (B : Nat) (X Y : List Int) (s : Bool) (d n m imm : Int) (w : World) (h : FAt w B X s Y) (i0 : 0 ≤ imm) (i1 : imm ≤ 65535) :
    Calls Try.prog 30 #[.pointer (some ⟨B, 0, none⟩), .agg #[.int .i64 6, .int .i64 d, .int .i64 n, .int .i64 m, .int .i64 imm, .int .i64 0]] w (DoPost B X Y s 6 d n m imm 0 w) := by
  have H := Lib.hid h
  obtain ⟨a0, a1, a2, a3, a4, a5, kb⟩ := ibox6 w 6 d n m imm 0 _ rfl
  have KB := Lib.hid kb
  have KF := Lib.hid (fun (x : Wb (w.alloc (.cells #[.int .i64 6, .int .i64 d, .int .i64 n, .int .i64 m, .int .i64 imm, .int .i64 0] 23))) => h.below (kb x))
  clear h kb
  obtain ⟨a, ha⟩ : ∃ a, a = GrG.getL X n := ⟨_, rfl⟩
  obtain ⟨b, hb⟩ : ∃ b, b = GrG.getL X m := ⟨_, rfl⟩
  have GA := Lib.hid (fun w h => ha ▸ get_below B X Y s n w h)
  have GB := Lib.hid (fun w h => hb ▸ get_below B X Y s m w h)
  have HA := Lib.hid ha
  have HB := Lib.hid hb
  clear ha hb
  go_enter Try.func30, Try.ntmps30
  go_wp2_with fail
  refine wp_region_wb (by kernel_rfl) (by kernel_rfl) ?_
  repeat (go_big_quiet_step (first | (go_at_call 25; with_reducible exact Calls.wb (x := _) (GA.out _ (KF.out _))) | (go_at_call 25; with_reducible exact Calls.wb (x := _) (GB.out _ (KF.out _)))))
  refine wpQuiet_nil ?_
  rintro _ ⟨x1, rfl⟩
  go_wp2_with fail
  refine (set_any B X Y s d imm _ (KF.out _)).mono ?_
  rintro e w2 ⟨rfl, o2, f2⟩
  have O2 := Lib.hid o2
  have F2 := Lib.hid f2
  clear o2 f2
  go_wp2
  go_end0
  exact ⟨rfl, (Only.of_below (KB.out x1)).trans O2.out, by rw [GrG.doX, GrG.doS]; simp [GrG.doesB, GrG.doV, ← HA.out, ← HB.out]; exact F2.out⟩

set_option maxRecDepth 100000 in
set_option maxHeartbeats 3200000 in
theorem do_6_1 (B : Nat) (X Y : List Int) (s : Bool) (d n m imm : Int) (w : World) (h : FAt w B X s Y) (i0 : 0 ≤ imm) (i1 : imm ≤ 65535) :
    Calls Try.prog 30 #[.pointer (some ⟨B, 0, none⟩), .agg #[.int .i64 6, .int .i64 d, .int .i64 n, .int .i64 m, .int .i64 imm, .int .i64 1]] w (DoPost B X Y s 6 d n m imm 1 w) := by
  have H := Lib.hid h
  obtain ⟨a0, a1, a2, a3, a4, a5, kb⟩ := ibox6 w 6 d n m imm 1 _ rfl
  have KB := Lib.hid kb
  have KF := Lib.hid (fun (x : Wb (w.alloc (.cells #[.int .i64 6, .int .i64 d, .int .i64 n, .int .i64 m, .int .i64 imm, .int .i64 1] 23))) => h.below (kb x))
  clear h kb
  obtain ⟨a, ha⟩ : ∃ a, a = GrG.getL X n := ⟨_, rfl⟩
  obtain ⟨b, hb⟩ : ∃ b, b = GrG.getL X m := ⟨_, rfl⟩
  have GA := Lib.hid (fun w h => ha ▸ get_below B X Y s n w h)
  have GB := Lib.hid (fun w h => hb ▸ get_below B X Y s m w h)
  have HA := Lib.hid ha
  have HB := Lib.hid hb
  clear ha hb
  go_enter Try.func30, Try.ntmps30
  go_wp2_with fail
  refine wp_region_wb (by kernel_rfl) (by kernel_rfl) ?_
  repeat (go_big_quiet_step (first | (go_at_call 25; with_reducible exact Calls.wb (x := _) (GA.out _ (KF.out _))) | (go_at_call 25; with_reducible exact Calls.wb (x := _) (GB.out _ (KF.out _)))))
  refine wpQuiet_nil ?_
  rintro _ ⟨x1, rfl⟩
  go_wp2_with fail
  refine (set_any B X Y s d (imm * 65536) _ (KF.out _)).mono ?_
  rintro e w2 ⟨rfl, o2, f2⟩
  have O2 := Lib.hid o2
  have F2 := Lib.hid f2
  clear o2 f2
  go_wp2
  go_end0
  exact ⟨rfl, (Only.of_below (KB.out x1)).trans O2.out, by rw [GrG.doX, GrG.doS]; simp [GrG.doesB, GrG.doV, ← HA.out, ← HB.out]; exact F2.out⟩

set_option maxRecDepth 100000 in
set_option maxHeartbeats 3200000 in
theorem do_6_2 (B : Nat) (X Y : List Int) (s : Bool) (d n m imm : Int) (w : World) (h : FAt w B X s Y) (i0 : 0 ≤ imm) (i1 : imm ≤ 65535) :
    Calls Try.prog 30 #[.pointer (some ⟨B, 0, none⟩), .agg #[.int .i64 6, .int .i64 d, .int .i64 n, .int .i64 m, .int .i64 imm, .int .i64 2]] w (DoPost B X Y s 6 d n m imm 2 w) := by
  have H := Lib.hid h
  obtain ⟨a0, a1, a2, a3, a4, a5, kb⟩ := ibox6 w 6 d n m imm 2 _ rfl
  have KB := Lib.hid kb
  have KF := Lib.hid (fun (x : Wb (w.alloc (.cells #[.int .i64 6, .int .i64 d, .int .i64 n, .int .i64 m, .int .i64 imm, .int .i64 2] 23))) => h.below (kb x))
  clear h kb
  obtain ⟨a, ha⟩ : ∃ a, a = GrG.getL X n := ⟨_, rfl⟩
  obtain ⟨b, hb⟩ : ∃ b, b = GrG.getL X m := ⟨_, rfl⟩
  have GA := Lib.hid (fun w h => ha ▸ get_below B X Y s n w h)
  have GB := Lib.hid (fun w h => hb ▸ get_below B X Y s m w h)
  have HA := Lib.hid ha
  have HB := Lib.hid hb
  clear ha hb
  go_enter Try.func30, Try.ntmps30
  go_wp2_with fail
  refine wp_region_wb (by kernel_rfl) (by kernel_rfl) ?_
  repeat (go_big_quiet_step (first | (go_at_call 25; with_reducible exact Calls.wb (x := _) (GA.out _ (KF.out _))) | (go_at_call 25; with_reducible exact Calls.wb (x := _) (GB.out _ (KF.out _)))))
  refine wpQuiet_nil ?_
  rintro _ ⟨x1, rfl⟩
  go_wp2_with fail
  refine (set_any B X Y s d (imm * 4294967296) _ (KF.out _)).mono ?_
  rintro e w2 ⟨rfl, o2, f2⟩
  have O2 := Lib.hid o2
  have F2 := Lib.hid f2
  clear o2 f2
  go_wp2
  go_end0
  exact ⟨rfl, (Only.of_below (KB.out x1)).trans O2.out, by rw [GrG.doX, GrG.doS]; simp [GrG.doesB, GrG.doV, ← HA.out, ← HB.out]; exact F2.out⟩

set_option maxRecDepth 100000 in
set_option maxHeartbeats 3200000 in
theorem do_6_3 (B : Nat) (X Y : List Int) (s : Bool) (d n m imm : Int) (w : World) (h : FAt w B X s Y) (i0 : 0 ≤ imm) (i1 : imm ≤ 65535) :
    Calls Try.prog 30 #[.pointer (some ⟨B, 0, none⟩), .agg #[.int .i64 6, .int .i64 d, .int .i64 n, .int .i64 m, .int .i64 imm, .int .i64 3]] w (DoPost B X Y s 6 d n m imm 3 w) := by
  have H := Lib.hid h
  obtain ⟨a0, a1, a2, a3, a4, a5, kb⟩ := ibox6 w 6 d n m imm 3 _ rfl
  have KB := Lib.hid kb
  have KF := Lib.hid (fun (x : Wb (w.alloc (.cells #[.int .i64 6, .int .i64 d, .int .i64 n, .int .i64 m, .int .i64 imm, .int .i64 3] 23))) => h.below (kb x))
  clear h kb
  obtain ⟨a, ha⟩ : ∃ a, a = GrG.getL X n := ⟨_, rfl⟩
  obtain ⟨b, hb⟩ : ∃ b, b = GrG.getL X m := ⟨_, rfl⟩
  have GA := Lib.hid (fun w h => ha ▸ get_below B X Y s n w h)
  have GB := Lib.hid (fun w h => hb ▸ get_below B X Y s m w h)
  have HA := Lib.hid ha
  have HB := Lib.hid hb
  clear ha hb
  go_enter Try.func30, Try.ntmps30
  go_wp2_with fail
  refine wp_region_wb (by kernel_rfl) (by kernel_rfl) ?_
  repeat (go_big_quiet_step (first | (go_at_call 25; with_reducible exact Calls.wb (x := _) (GA.out _ (KF.out _))) | (go_at_call 25; with_reducible exact Calls.wb (x := _) (GB.out _ (KF.out _)))))
  refine wpQuiet_nil ?_
  rintro _ ⟨x1, rfl⟩
  go_wp2_with fail
  refine (set_any B X Y s d (imm * 281474976710656) _ (KF.out _)).mono ?_
  rintro e w2 ⟨rfl, o2, f2⟩
  have O2 := Lib.hid o2
  have F2 := Lib.hid f2
  clear o2 f2
  go_wp2
  go_end0
  exact ⟨rfl, (Only.of_below (KB.out x1)).trans O2.out, by rw [GrG.doX, GrG.doS]; simp [GrG.doesB, GrG.doV, ← HA.out, ← HB.out]; exact F2.out⟩

set_option maxRecDepth 100000 in
set_option maxHeartbeats 3200000 in
theorem do_23_0 (B : Nat) (X Y : List Int) (s : Bool) (d n m imm : Int) (w : World) (h : FAt w B X s Y) :
    Calls Try.prog 30 #[.pointer (some ⟨B, 0, none⟩), .agg #[.int .i64 23, .int .i64 d, .int .i64 n, .int .i64 m, .int .i64 imm, .int .i64 0]] w (DoPost B X Y s 23 d n m imm 0 w) := by
  have H := Lib.hid h
  obtain ⟨a0, a1, a2, a3, a4, a5, kb⟩ := ibox6 w 23 d n m imm 0 _ rfl
  have KB := Lib.hid kb
  have KF := Lib.hid (fun (x : Wb (w.alloc (.cells #[.int .i64 23, .int .i64 d, .int .i64 n, .int .i64 m, .int .i64 imm, .int .i64 0] 23))) => h.below (kb x))
  clear h kb
  obtain ⟨a, ha⟩ : ∃ a, a = GrG.getL X n := ⟨_, rfl⟩
  obtain ⟨b, hb⟩ : ∃ b, b = GrG.getL X m := ⟨_, rfl⟩
  have GA := Lib.hid (fun w h => ha ▸ get_below B X Y s n w h)
  have GB := Lib.hid (fun w h => hb ▸ get_below B X Y s m w h)
  have HA := Lib.hid ha
  have HB := Lib.hid hb
  clear ha hb
  go_enter Try.func30, Try.ntmps30
  go_wp2_with fail
  refine wp_region_wb (by kernel_rfl) (by kernel_rfl) ?_
  repeat (go_big_quiet_step (first | (go_at_call 25; with_reducible exact Calls.wb (x := _) (GA.out _ (KF.out _))) | (go_at_call 25; with_reducible exact Calls.wb (x := _) (GB.out _ (KF.out _)))))
  refine wpQuiet_nil ?_
  rintro _ ⟨x1, rfl⟩
  obtain ⟨v, hv⟩ : ∃ v, v = Y.getD 0 0 := ⟨_, rfl⟩
  have SE := Lib.hid (fun w h => set_any B X Y s d v w h)
  have HV := Lib.hid hv
  have b0 := x1.lift a0
  have b1 := x1.lift a1
  have b5 := x1.lift a5
  have KX := Lib.hid (fun (y : Wb x1.at) => (KF.out x1).below y.bel)
  have cy : ∀ y : Wb x1.at, y.at.cell? ⟨B, 32 + 0, none⟩ = some (.int .u64 v) := fun y => by rw [hv]; exact (KX.out y).sys 0 (by decide)
  clear hv
  go_wp2_with fail
  refine wp_region_wb_tail 10 (by kernel_rfl) (by kernel_rfl) ?_
  simp only [List.take_succ_cons, List.take_zero, List.drop_succ_cons, List.drop_zero]
  repeat (go_big_quiet_step (fail))
  refine wpQuiet_nil ?_
  rintro _ ⟨y1, rfl⟩
  go_wp2_with fail
  refine (SE.out _ (KX.out y1)).mono ?_
  rintro e w2 ⟨rfl, o2, f2⟩
  have O2 := Lib.hid o2
  have F2 := Lib.hid f2
  clear o2 f2
  go_wp2
  go_end0
  exact ⟨rfl, ((Only.of_below (KB.out x1)).trans (Only.of_below y1.bel)).trans O2.out, by rw [GrG.doX, GrG.doS]; simp [GrG.doesB, GrG.doV]; simp [HV.out] at F2; exact F2.out⟩

set_option maxRecDepth 100000 in
set_option maxHeartbeats 3200000 in
theorem do_23_1 (B : Nat) (X Y : List Int) (s : Bool) (d n m imm : Int) (w : World) (h : FAt w B X s Y) :
    Calls Try.prog 30 #[.pointer (some ⟨B, 0, none⟩), .agg #[.int .i64 23, .int .i64 d, .int .i64 n, .int .i64 m, .int .i64 imm, .int .i64 1]] w (DoPost B X Y s 23 d n m imm 1 w) := by
  have H := Lib.hid h
  obtain ⟨a0, a1, a2, a3, a4, a5, kb⟩ := ibox6 w 23 d n m imm 1 _ rfl
  have KB := Lib.hid kb
  have KF := Lib.hid (fun (x : Wb (w.alloc (.cells #[.int .i64 23, .int .i64 d, .int .i64 n, .int .i64 m, .int .i64 imm, .int .i64 1] 23))) => h.below (kb x))
  clear h kb
  obtain ⟨a, ha⟩ : ∃ a, a = GrG.getL X n := ⟨_, rfl⟩
  obtain ⟨b, hb⟩ : ∃ b, b = GrG.getL X m := ⟨_, rfl⟩
  have GA := Lib.hid (fun w h => ha ▸ get_below B X Y s n w h)
  have GB := Lib.hid (fun w h => hb ▸ get_below B X Y s m w h)
  have HA := Lib.hid ha
  have HB := Lib.hid hb
  clear ha hb
  go_enter Try.func30, Try.ntmps30
  go_wp2_with fail
  refine wp_region_wb (by kernel_rfl) (by kernel_rfl) ?_
  repeat (go_big_quiet_step (first | (go_at_call 25; with_reducible exact Calls.wb (x := _) (GA.out _ (KF.out _))) | (go_at_call 25; with_reducible exact Calls.wb (x := _) (GB.out _ (KF.out _)))))
  refine wpQuiet_nil ?_
  rintro _ ⟨x1, rfl⟩
  obtain ⟨v, hv⟩ : ∃ v, v = Y.getD 1 0 := ⟨_, rfl⟩
  have SE := Lib.hid (fun w h => set_any B X Y s d v w h)
  have HV := Lib.hid hv
  have b0 := x1.lift a0
  have b1 := x1.lift a1
  have b5 := x1.lift a5
  have KX := Lib.hid (fun (y : Wb x1.at) => (KF.out x1).below y.bel)
  have cy : ∀ y : Wb x1.at, y.at.cell? ⟨B, 32 + 1, none⟩ = some (.int .u64 v) := fun y => by rw [hv]; exact (KX.out y).sys 1 (by decide)
  clear hv
  go_wp2_with fail
  refine wp_region_wb_tail 10 (by kernel_rfl) (by kernel_rfl) ?_
  simp only [List.take_succ_cons, List.take_zero, List.drop_succ_cons, List.drop_zero]
  repeat (go_big_quiet_step (fail))
  refine wpQuiet_nil ?_
  rintro _ ⟨y1, rfl⟩
  go_wp2_with fail
  refine (SE.out _ (KX.out y1)).mono ?_
  rintro e w2 ⟨rfl, o2, f2⟩
  have O2 := Lib.hid o2
  have F2 := Lib.hid f2
  clear o2 f2
  go_wp2
  go_end0
  exact ⟨rfl, ((Only.of_below (KB.out x1)).trans (Only.of_below y1.bel)).trans O2.out, by rw [GrG.doX, GrG.doS]; simp [GrG.doesB, GrG.doV]; simp [HV.out] at F2; exact F2.out⟩

set_option maxRecDepth 100000 in
set_option maxHeartbeats 3200000 in
theorem do_23_2 (B : Nat) (X Y : List Int) (s : Bool) (d n m imm : Int) (w : World) (h : FAt w B X s Y) :
    Calls Try.prog 30 #[.pointer (some ⟨B, 0, none⟩), .agg #[.int .i64 23, .int .i64 d, .int .i64 n, .int .i64 m, .int .i64 imm, .int .i64 2]] w (DoPost B X Y s 23 d n m imm 2 w) := by
  have H := Lib.hid h
  obtain ⟨a0, a1, a2, a3, a4, a5, kb⟩ := ibox6 w 23 d n m imm 2 _ rfl
  have KB := Lib.hid kb
  have KF := Lib.hid (fun (x : Wb (w.alloc (.cells #[.int .i64 23, .int .i64 d, .int .i64 n, .int .i64 m, .int .i64 imm, .int .i64 2] 23))) => h.below (kb x))
  clear h kb
  obtain ⟨a, ha⟩ : ∃ a, a = GrG.getL X n := ⟨_, rfl⟩
  obtain ⟨b, hb⟩ : ∃ b, b = GrG.getL X m := ⟨_, rfl⟩
  have GA := Lib.hid (fun w h => ha ▸ get_below B X Y s n w h)
  have GB := Lib.hid (fun w h => hb ▸ get_below B X Y s m w h)
  have HA := Lib.hid ha
  have HB := Lib.hid hb
  clear ha hb
  go_enter Try.func30, Try.ntmps30
  go_wp2_with fail
  refine wp_region_wb (by kernel_rfl) (by kernel_rfl) ?_
  repeat (go_big_quiet_step (first | (go_at_call 25; with_reducible exact Calls.wb (x := _) (GA.out _ (KF.out _))) | (go_at_call 25; with_reducible exact Calls.wb (x := _) (GB.out _ (KF.out _)))))
  refine wpQuiet_nil ?_
  rintro _ ⟨x1, rfl⟩
  obtain ⟨v, hv⟩ : ∃ v, v = Y.getD 2 0 := ⟨_, rfl⟩
  have SE := Lib.hid (fun w h => set_any B X Y s d v w h)
  have HV := Lib.hid hv
  have b0 := x1.lift a0
  have b1 := x1.lift a1
  have b5 := x1.lift a5
  have KX := Lib.hid (fun (y : Wb x1.at) => (KF.out x1).below y.bel)
  have cy : ∀ y : Wb x1.at, y.at.cell? ⟨B, 32 + 2, none⟩ = some (.int .u64 v) := fun y => by rw [hv]; exact (KX.out y).sys 2 (by decide)
  clear hv
  go_wp2_with fail
  refine wp_region_wb_tail 10 (by kernel_rfl) (by kernel_rfl) ?_
  simp only [List.take_succ_cons, List.take_zero, List.drop_succ_cons, List.drop_zero]
  repeat (go_big_quiet_step (fail))
  refine wpQuiet_nil ?_
  rintro _ ⟨y1, rfl⟩
  go_wp2_with fail
  refine (SE.out _ (KX.out y1)).mono ?_
  rintro e w2 ⟨rfl, o2, f2⟩
  have O2 := Lib.hid o2
  have F2 := Lib.hid f2
  clear o2 f2
  go_wp2
  go_end0
  exact ⟨rfl, ((Only.of_below (KB.out x1)).trans (Only.of_below y1.bel)).trans O2.out, by rw [GrG.doX, GrG.doS]; simp [GrG.doesB, GrG.doV]; simp [HV.out] at F2; exact F2.out⟩

end Go.Proofs.Ytnehdgapcgbdeaa
