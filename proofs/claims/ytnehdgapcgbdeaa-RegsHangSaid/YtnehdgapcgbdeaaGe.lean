/-
  Layer 5, the walks: Do, whatever it gets; the page's example.
-/
import Derived.Test.YtnehdgapcgbdeaaGd
import Derived.Test.YtnehdgapcgbdeaaIm
set_option linter.unusedSimpArgs false
set_option linter.unusedVariables false
namespace Go.Proofs.Ytnehdgapcgbdeaa
open Go.RowKit
set_option maxRecDepth 100000 in
set_option maxHeartbeats 3200000 in
theorem do_no (B : Nat) (X Y : List Int) (s : Bool) (op d n m imm kind : Int) (w : World) (h : FAt w B X s Y) (q6 : (op == 6) = false) (q7 : (op == 7) = false) (q8 : (op == 8) = false) (q9 : (op == 9) = false) (q10 : (op == 10) = false) (q11 : (op == 11) = false) (q12 : (op == 12) = false) (q13 : (op == 13) = false) (q23 : (op == 23) = false) :
    Calls Try.prog 30 #[.pointer (some ⟨B, 0, none⟩), .agg #[.int .i64 op, .int .i64 d, .int .i64 n, .int .i64 m, .int .i64 imm, .int .i64 kind]] w (DoPost B X Y s op d n m imm kind w) := by
  have H := Lib.hid h
  obtain ⟨a0, a1, a2, a3, a4, a5, kb⟩ := ibox6 w op d n m imm kind _ rfl
  have KB := Lib.hid kb
  have KF := Lib.hid (fun (x : Wb (w.alloc (.cells #[.int .i64 op, .int .i64 d, .int .i64 n, .int .i64 m, .int .i64 imm, .int .i64 kind] 23))) => h.below (kb x))
  clear h kb
  obtain ⟨a, ha⟩ : ∃ a, a = GrG.getL X n := ⟨_, rfl⟩
  obtain ⟨b, hb⟩ : ∃ b, b = GrG.getL X m := ⟨_, rfl⟩
  have GA := Lib.hid (fun w h => ha ▸ get_below B X Y s n w h)
  have GB := Lib.hid (fun w h => hb ▸ get_below B X Y s m w h)
  have HA := Lib.hid ha
  have HB := Lib.hid hb
  clear ha hb
  go_enter Try.func30, Try.ntmps30
  go_wp2_with fail
  refine wp_region_wb (by kernel_rfl) (by kernel_rfl) ?_
  repeat (go_big_quiet_step (first | (go_at_call 25; with_reducible exact Calls.wb (x := _) (GA.out _ (KF.out _))) | (go_at_call 25; with_reducible exact Calls.wb (x := _) (GB.out _ (KF.out _)))))
  refine wpQuiet_nil ?_
  rintro _ ⟨x1, rfl⟩
  go_wp2
  go_end0
  exact ⟨rfl, Only.of_below (KB.out x1), by
    have e1 : GrG.doesB op = false := by simp at q6 q7 q8 q9 q10 q11 q12 q13 q23; simp [GrG.doesB]; omega
    have e2 : op ≠ 13 := by simpa using q13
    rw [GrG.doX, GrG.doS, e1, if_neg e2]; exact KF.out x1⟩

theorem do_any (B : Nat) (X Y : List Int) (s : Bool) (x : GrI.I) (w : World) (h : FAt w B X s Y) (hr : GrI.right x) :
    Calls Try.prog 30 #[.pointer (some ⟨B, 0, none⟩), .agg #[.int .i64 x.op, .int .i64 x.d, .int .i64 x.n, .int .i64 x.m, .int .i64 x.imm, .int .i64 x.kind]] w (DoPost B X Y s x.op x.d x.n x.m x.imm x.kind w) := by
  obtain ⟨op, d, n, m, imm, kind⟩ := x
  have ho := GrI.ops hr
  simp only at ho ⊢
  have hn := hr.2.2.2.2.2.2.2.2.2.2.2.2.2
  rcases ho with rfl | rfl | rfl | rfl | rfl | rfl | rfl | rfl | rfl | rfl | rfl | rfl | rfl | rfl | rfl | rfl | rfl | rfl | rfl | rfl | rfl | rfl | rfl
  · exact do_no B X Y s 1 d n m imm kind w h rfl rfl rfl rfl rfl rfl rfl rfl rfl
  · exact do_no B X Y s 2 d n m imm kind w h rfl rfl rfl rfl rfl rfl rfl rfl rfl
  · exact do_no B X Y s 3 d n m imm kind w h rfl rfl rfl rfl rfl rfl rfl rfl rfl
  · exact do_no B X Y s 4 d n m imm kind w h rfl rfl rfl rfl rfl rfl rfl rfl rfl
  · exact do_no B X Y s 5 d n m imm kind w h rfl rfl rfl rfl rfl rfl rfl rfl rfl
  · simp [GrI.nums] at hn
    have hk : kind = 0 ∨ kind = 1 ∨ kind = 2 ∨ kind = 3 := by omega
    rcases hk with rfl | rfl | rfl | rfl
    · exact do_6_0 B X Y s d n m imm w h (by omega) (by omega)
    · exact do_6_1 B X Y s d n m imm w h (by omega) (by omega)
    · exact do_6_2 B X Y s d n m imm w h (by omega) (by omega)
    · exact do_6_3 B X Y s d n m imm w h (by omega) (by omega)
  · exact do_7 B X Y s d n m imm kind w h
  · exact do_8 B X Y s d n m imm kind w h
  · exact do_9 B X Y s d n m imm kind w h
  · exact do_10 B X Y s d n m imm kind w h
  · exact do_11 B X Y s d n m imm kind w h
  · exact do_12 B X Y s d n m imm kind w h
  · exact do_13 B X Y s d n m imm kind w h
  · exact do_no B X Y s 14 d n m imm kind w h rfl rfl rfl rfl rfl rfl rfl rfl rfl
  · exact do_no B X Y s 15 d n m imm kind w h rfl rfl rfl rfl rfl rfl rfl rfl rfl
  · exact do_no B X Y s 16 d n m imm kind w h rfl rfl rfl rfl rfl rfl rfl rfl rfl
  · exact do_no B X Y s 17 d n m imm kind w h rfl rfl rfl rfl rfl rfl rfl rfl rfl
  · exact do_no B X Y s 18 d n m imm kind w h rfl rfl rfl rfl rfl rfl rfl rfl rfl
  · exact do_no B X Y s 19 d n m imm kind w h rfl rfl rfl rfl rfl rfl rfl rfl rfl
  · exact do_no B X Y s 20 d n m imm kind w h rfl rfl rfl rfl rfl rfl rfl rfl rfl
  · exact do_no B X Y s 21 d n m imm kind w h rfl rfl rfl rfl rfl rfl rfl rfl rfl
  · exact do_no B X Y s 22 d n m imm kind w h rfl rfl rfl rfl rfl rfl rfl rfl rfl
  · simp [GrI.nums] at hn
    have hk : kind = 0 ∨ kind = 1 ∨ kind = 2 := by omega
    rcases hk with rfl | rfl | rfl
    · exact do_23_0 B X Y s d n m imm w h
    · exact do_23_1 B X Y s d n m imm w h
    · exact do_23_2 B X Y s d n m imm w h

set_option maxHeartbeats 800000 in
theorem load_ldr (w : World) : Calls Try.prog 17 #[.agg #[.int .i64 2, .int .i64 0, .int .i64 0, .int .i64 0, .int .i64 0, .int .i64 0]] w fun e w' => e = .returned (.bool true) ∧ Below w.heap.size w w' := by
  go_enter Try.func17, Try.ntmps17
  go_wp2
  go_ret
  exact ⟨rfl, (Below.refl _ _).alloc (Nat.le_refl _) _⟩
theorem heap_setRow_new (w : World) (A C : Array Value) (T : TypeId) : ((w.alloc (.cells A T)).setRow w.heap.size C).heap[w.heap.size]? = some (.cells C T (0, 0)) := setRow_heap _ _ _ _ _ _ (heap_alloc_new w _)

set_option maxRecDepth 100000 in
set_option maxHeartbeats 3200000 in
theorem gawake_any (w : World) : Calls Try.prog 8 #[] w fun e w' => e = .returned (.bool true) ∧ Below w.heap.size w w' := by
  have US := Lib.hid (show USl (w.alloc (.cells #[.int .u64 3, .int .u64 3] 30)) (some ⟨w.heap.size, 0, none⟩) 2 [3, 3] from ⟨rfl, fun j hj => ⟨_, rfl, by
    have : j = 0 ∨ j = 1 := by omega
    rcases this with rfl | rfl <;> simp [Addr.add, World.cell?_alloc_new]⟩⟩)
  have OC := of_any (some ⟨w.heap.size, 0, none⟩) 2 2 [3, 3] _ US.out
  obtain ⟨C, hC⟩ : ∃ C, C = GrG.fcells (GrG.regsOf [3, 3]) false [0, 0, 0] := ⟨_, rfl⟩
  rw [← hC] at OC
  have OC := Lib.hid OC
  have z1 := Lib.hid (show (Try.prog.info? 36).map (·.size) = some C.toArray.size by rw [sizeF, hC]; simp [GrG.fl [3, 3]])
  have z2 := Lib.hid (show (#[.int .u64 0, .int .u64 0, .int .u64 0, .int .u64 0, .int .u64 0, .int .u64 0, .int .u64 0, .int .u64 0, .int .u64 0, .int .u64 0, .int .u64 0, .int .u64 0, .int .u64 0, .int .u64 0, .int .u64 0, .int .u64 0, .int .u64 0, .int .u64 0, .int .u64 0, .int .u64 0, .int .u64 0, .int .u64 0, .int .u64 0, .int .u64 0, .int .u64 0, .int .u64 0, .int .u64 0, .int .u64 0, .int .u64 0, .int .u64 0, .int .u64 0, .bool false, .int .u64 0, .int .u64 0, .int .u64 0] : Array Value).size = C.toArray.size by rw [hC]; simp [GrG.fl [3, 3]])
  have z3 := Lib.hid (show C.toArray.all (·.oneCell') = true by rw [hC]; exact GrG.fcells_one _ _ _)
  have HC := Lib.hid hC
  clear hC
  go_enter Try.func8, Try.ntmps8
  go_wp2_with fail
  refine OC.out.mono ?_
  rintro e w1 ⟨rfl, b1⟩
  have B1 := Lib.hid (((Below.refl _ _).alloc (Nat.le_refl _) _).trans (b1.mono (by simp)) : Below w.heap.size w w1)
  clear b1
  go_wp2_with (with_reducible refine wpList_store_row rfl 36 (.tmp 1) (.tmp 3) rfl w1.heap.size C.toArray rfl rfl 36 _ (heap_alloc_new _ _) z1.out z2.out z3.out ?_)
  obtain ⟨w2, hw2⟩ : ∃ w2, w2 = (w1.alloc (.cells #[.int .u64 0, .int .u64 0, .int .u64 0, .int .u64 0, .int .u64 0, .int .u64 0, .int .u64 0, .int .u64 0, .int .u64 0, .int .u64 0, .int .u64 0, .int .u64 0, .int .u64 0, .int .u64 0, .int .u64 0, .int .u64 0, .int .u64 0, .int .u64 0, .int .u64 0, .int .u64 0, .int .u64 0, .int .u64 0, .int .u64 0, .int .u64 0, .int .u64 0, .int .u64 0, .int .u64 0, .int .u64 0, .int .u64 0, .int .u64 0, .int .u64 0, .bool false, .int .u64 0, .int .u64 0, .int .u64 0] 36)).setRow w1.heap.size C.toArray := ⟨_, rfl⟩
  rw [← hw2]
  have F2 := Lib.hid (show FAt w2 w1.heap.size (GrG.regsOf [3, 3]) false [0, 0, 0] from ⟨by rw [hw2, ← HC.out]; exact heap_setRow_new _ _ _ _, GrG.regsOf_len _, rfl⟩)
  have B2 := Lib.hid (show Below w.heap.size w w2 by rw [hw2]; exact below_setRow (B1.out.alloc B1.out.size _) B1.out.size _)
  obtain ⟨B, hB⟩ : ∃ B, B = w1.heap.size := ⟨_, rfl⟩
  have L2 := Lib.hid (show w.heap.size ≤ B by rw [hB]; exact B1.out.size)
  rw [← hB] at F2 ⊢
  clear hw2 hB
  refine (do_13 B _ _ false 2 0 1 0 0 w2 F2.out).mono ?_
  rintro e w3 ⟨rfl, o3, f3⟩
  have es : GrG.doS 13 0 1 (GrG.regsOf [3, 3]) false = true := by decide
  rw [es] at f3
  have B3 := Lib.hid (B2.out.trans (o3.below L2.out B2.out.size))
  have F3 := Lib.hid f3
  have c31 := f3.same
  clear o3 f3 es
  go_wp2_with fail
  refine (taken_17 B _ _ true 0 0 0 1 0 w3 F3.out).mono ?_
  rintro e w4 ⟨rfl, b4⟩
  have et : GrG.takenB 17 0 (GrG.doX 13 2 0 1 0 0 (GrG.regsOf [3, 3]) [0, 0, 0]) true 0 = true := rfl
  rw [et]
  have B4 := Lib.hid (B3.out.trans (b4.mono B3.out.size))
  clear b4 et
  go_wp2_with fail
  refine (load_ldr _).mono ?_
  rintro e w5 ⟨rfl, b5⟩
  have B5 := Lib.hid (B4.out.trans (b5.mono B4.out.size))
  clear b5
  go_wp2
  go_ret
  exact ⟨rfl, B5.out⟩
end Go.Proofs.Ytnehdgapcgbdeaa
