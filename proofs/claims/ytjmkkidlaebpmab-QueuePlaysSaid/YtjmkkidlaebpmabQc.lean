/-
  Layer 19, the walks: Put, Take.
-/
import Derived.Test.YtjmkkidlaebpmabQb
set_option linter.unusedSimpArgs false
set_option linter.unusedVariables false
namespace Go.Proofs.Ytjmkkidlaebpmab
open Go.Conc Go.RowKit

/-! ### queues of int -/
set_option maxRecDepth 100000 in
set_option maxHeartbeats 1600000 in
theorem iput_room (q c cap : Nat) (L : List Value) (x : Int) (w : World) (h : Row w q [.chan (some c)] 57) (k : Ch w c cap L) (hr : L.length < cap) :
    Calls Try.prog 9 #[.pointer (some ⟨q, 0, none⟩), .int .i64 x] w fun e w' => e = .returned (.bool true) ∧ (Only c w w' ∧ Ch w' c cap (L ++ [.int .i64 x])) := by
  have h0 := h.cell 0
  simp only [List.getElem?_cons_zero] at h0
  have hl := h.lt
  obtain ⟨s, r, kc⟩ := k
  have kl : c < w.heap.size := Ch.lt (cap := cap) (L := L) ⟨s, r, kc⟩
  refine calls_of_loneTo fun cs => ?_
  have e : Frame.enter Try.prog 9 #[.pointer (some ⟨q, 0, none⟩), .int .i64 x] .normal = (base 9).at ⟨#[.pointer (some ⟨q, 0, none⟩), .int .i64 x, undef, undef, undef, undef, undef, undef, undef, undef, undef], []⟩ [.code (Try.f9.body.getD .skip)] := by
    simp [Frame.enter, Frame.at, Try.func9, base, Try.f9]
  rw [e]
  refine LoneTo.goes (n := 90) ?_
  simp only [Try.f9, Option.getD_some]
  repeat (first | s_c stepG_seq | s_reg | s_op | s_c stepG_region_end)
  s_call Try.func24 (by kernel_rfl) Try.f24
  repeat (first | s_c stepG_seq | s_reg | s_op | s_c stepG_region_end)
  s_cond false
  repeat (first | s_c stepG_seq | s_c stepG_skip | s_reg | s_op | s_c stepG_region_end)
  s_c stepG_ret'
  s_leave1 Try.func24
  repeat (first | s_c stepG_seq | s_reg | s_op | s_c stepG_region_end)
  s_stop
  refine LoneTo.step (step_lone_select_send_room (c := c) (cap := cap) (buf := L.toArray) (s := s) (r := r) (tm := false) (stepG_comm (cases := #[scase c (.int .i64 x) (.int .i64 0)]) (blocking := false) (shape := .select) (w' := w) rfl rfl (by decide) (by simp [go_sem, execOp, scase, Act.eval])) kc (by simpa using hr)) ?_
  rw [Frame.finish_at]
  walk_nrm
  refine LoneTo.goes (n := 60) ?_
  repeat (first | s_c stepG_seq | s_reg | s_op | s_c stepG_region_end | s_c stepG_block)
  s_cond true
  repeat (first | s_c stepG_seq | s_c stepG_block | s_c stepG_skip | s_reg | s_op | s_c stepG_region_end)
  s_c stepG_ret'
  s_stop
  refine LoneTo.done ⟨.returned (.bool true), _, rfl, ⟨rfl, ⟨Only.chan _ _ _ _ _ _ _ _, s + 1, r, by simpa using heap_setChan w c cap (L.toArray.push (.int .i64 x)) false (s + 1) r false kl⟩⟩, rfl, rfl, rfl, rfl, _, Try.func9, by simp [results, Try.f9, Frame.at]⟩

set_option maxRecDepth 100000 in
set_option maxHeartbeats 1600000 in
theorem iput_full (q c cap : Nat) (L : List Value) (x : Int) (w : World) (h : Row w q [.chan (some c)] 57) (k : Ch w c cap L) (hr : cap ≤ L.length) :
    Calls Try.prog 9 #[.pointer (some ⟨q, 0, none⟩), .int .i64 x] w fun e w' => e = .returned (.bool false) ∧ (w = w') := by
  have h0 := h.cell 0
  simp only [List.getElem?_cons_zero] at h0
  have hl := h.lt
  obtain ⟨s, r, kc⟩ := k
  have kl : c < w.heap.size := Ch.lt (cap := cap) (L := L) ⟨s, r, kc⟩
  refine calls_of_loneTo fun cs => ?_
  have e : Frame.enter Try.prog 9 #[.pointer (some ⟨q, 0, none⟩), .int .i64 x] .normal = (base 9).at ⟨#[.pointer (some ⟨q, 0, none⟩), .int .i64 x, undef, undef, undef, undef, undef, undef, undef, undef, undef], []⟩ [.code (Try.f9.body.getD .skip)] := by
    simp [Frame.enter, Frame.at, Try.func9, base, Try.f9]
  rw [e]
  refine LoneTo.goes (n := 90) ?_
  simp only [Try.f9, Option.getD_some]
  repeat (first | s_c stepG_seq | s_reg | s_op | s_c stepG_region_end)
  s_call Try.func24 (by kernel_rfl) Try.f24
  repeat (first | s_c stepG_seq | s_reg | s_op | s_c stepG_region_end)
  s_cond false
  repeat (first | s_c stepG_seq | s_c stepG_skip | s_reg | s_op | s_c stepG_region_end)
  s_c stepG_ret'
  s_leave1 Try.func24
  repeat (first | s_c stepG_seq | s_reg | s_op | s_c stepG_region_end)
  s_stop
  refine LoneTo.step (step_lone_select_send_full (c := c) (cap := cap) (buf := L.toArray) (s := s) (r := r) (tm := false) (stepG_comm (cases := #[scase c (.int .i64 x) (.int .i64 0)]) (blocking := false) (shape := .select) (w' := w) rfl rfl (by decide) (by simp [go_sem, execOp, scase, Act.eval])) kc (by simpa using hr)) ?_
  rw [Frame.finish_at]
  walk_nrm
  refine LoneTo.goes (n := 60) ?_
  repeat (first | s_c stepG_seq | s_reg | s_op | s_c stepG_region_end | s_c stepG_block)
  s_cond false
  repeat (first | s_c stepG_seq | s_c stepG_block | s_c stepG_skip | s_reg | s_op | s_c stepG_region_end)
  s_c stepG_ret'
  s_stop
  refine LoneTo.done ⟨.returned (.bool false), _, rfl, ⟨rfl, rfl⟩, rfl, rfl, rfl, rfl, _, Try.func9, by simp [results, Try.f9, Frame.at]⟩

set_option maxRecDepth 100000 in
set_option maxHeartbeats 1600000 in
theorem itake_some (q c cap : Nat) (L : List Value) (x : Int) (w : World) (h : Row w q [.chan (some c)] 57) (k : Ch w c cap (.int .i64 x :: L)) :
    Calls Try.prog 11 #[.pointer (some ⟨q, 0, none⟩)] w fun e w' => e = .returned (.tuple #[.int .i64 x, .bool true]) ∧ (Only c w w' ∧ Ch w' c cap L) := by
  have h0 := h.cell 0
  simp only [List.getElem?_cons_zero] at h0
  have hl := h.lt
  obtain ⟨s, r, kc⟩ := k
  have kl : c < w.heap.size := Ch.lt (cap := cap) (L := .int .i64 x :: L) ⟨s, r, kc⟩
  refine calls_of_loneTo fun cs => ?_
  have e : Frame.enter Try.prog 11 #[.pointer (some ⟨q, 0, none⟩)] .normal = (base 11).at ⟨#[.pointer (some ⟨q, 0, none⟩), undef, undef, undef, undef, undef, undef, undef, undef, undef, undef, undef, undef, undef], []⟩ [.code (Try.f11.body.getD .skip)] := by
    simp [Frame.enter, Frame.at, Try.func11, base, Try.f11]
  rw [e]
  refine LoneTo.goes (n := 90) ?_
  simp only [Try.f11, Option.getD_some]
  repeat (first | s_c stepG_seq | s_reg | s_op | s_c stepG_region_end)
  s_call Try.func24 (by kernel_rfl) Try.f24
  repeat (first | s_c stepG_seq | s_reg | s_op | s_c stepG_region_end)
  s_cond false
  repeat (first | s_c stepG_seq | s_c stepG_skip | s_reg | s_op | s_c stepG_region_end)
  s_c stepG_ret'
  s_leave1 Try.func24
  repeat (first | s_c stepG_seq | s_reg | s_op | s_c stepG_region_end)
  s_stop
  refine LoneTo.step (step_lone_select_recv_buf (c := c) (z := .int .i64 0) (cap := cap) (buf := (.int .i64 x :: L).toArray) (closed := false) (s := s) (r := r) (tm := false) (stepG_comm (cases := #[rcase c (.int .i64 0)]) (blocking := false) (shape := .select) (w' := w) rfl rfl (by decide) (by simp [go_sem, execOp, rcase, Act.eval])) kc (by simp)) ?_
  rw [show (.int .i64 x :: L).toArray.getD 0 undef = .int .i64 x by simp]
  rw [Frame.finish_at]
  walk_nrm
  refine LoneTo.goes (n := 60) ?_
  repeat (first | s_c stepG_seq | s_reg | s_op | s_c stepG_region_end | s_c stepG_block)
  s_cond true
  repeat (first | s_c stepG_seq | s_c stepG_block | s_c stepG_skip | s_reg | s_op | s_c stepG_region_end)
  s_c stepG_ret'
  s_stop
  refine LoneTo.done ⟨.returned (.tuple #[.int .i64 x, .bool true]), _, rfl, ⟨rfl, ⟨Only.chan _ _ _ _ _ _ _ _, s, r + 1, by simpa using heap_setChan w c cap ((.int .i64 x :: L).toArray.extract 1 (.int .i64 x :: L).toArray.size) false s (r + 1) false kl⟩⟩, rfl, rfl, rfl, rfl, _, Try.func11, by simp [results, Try.f11, Frame.at]⟩

set_option maxRecDepth 100000 in
set_option maxHeartbeats 1600000 in
theorem itake_none (q c cap : Nat) (w : World) (h : Row w q [.chan (some c)] 57) (k : Ch w c cap []) :
    Calls Try.prog 11 #[.pointer (some ⟨q, 0, none⟩)] w fun e w' => e = .returned (.tuple #[.int .i64 0, .bool false]) ∧ w = w' := by
  have h0 := h.cell 0
  simp only [List.getElem?_cons_zero] at h0
  have hl := h.lt
  obtain ⟨s, r, kc⟩ := k
  have kl : c < w.heap.size := Ch.lt (cap := cap) (L := []) ⟨s, r, kc⟩
  refine calls_of_loneTo fun cs => ?_
  have e : Frame.enter Try.prog 11 #[.pointer (some ⟨q, 0, none⟩)] .normal = (base 11).at ⟨#[.pointer (some ⟨q, 0, none⟩), undef, undef, undef, undef, undef, undef, undef, undef, undef, undef, undef, undef, undef], []⟩ [.code (Try.f11.body.getD .skip)] := by
    simp [Frame.enter, Frame.at, Try.func11, base, Try.f11]
  rw [e]
  refine LoneTo.goes (n := 90) ?_
  simp only [Try.f11, Option.getD_some]
  repeat (first | s_c stepG_seq | s_reg | s_op | s_c stepG_region_end)
  s_call Try.func24 (by kernel_rfl) Try.f24
  repeat (first | s_c stepG_seq | s_reg | s_op | s_c stepG_region_end)
  s_cond false
  repeat (first | s_c stepG_seq | s_c stepG_skip | s_reg | s_op | s_c stepG_region_end)
  s_c stepG_ret'
  s_leave1 Try.func24
  repeat (first | s_c stepG_seq | s_reg | s_op | s_c stepG_region_end)
  s_stop
  refine LoneTo.step (step_lone_select_default (c := c) (z := .int .i64 0) (cap := cap) (s := s) (r := r) (tm := false) (stepG_comm (cases := #[rcase c (.int .i64 0)]) (blocking := false) (shape := .select) (w' := w) rfl rfl (by decide) (by simp [go_sem, execOp, rcase, Act.eval])) kc) ?_
  rw [Frame.finish_at]
  walk_nrm
  refine LoneTo.goes (n := 60) ?_
  repeat (first | s_c stepG_seq | s_reg | s_op | s_c stepG_region_end | s_c stepG_block)
  s_cond false
  repeat (first | s_c stepG_seq | s_c stepG_block | s_c stepG_skip | s_reg | s_op | s_c stepG_region_end)
  s_c stepG_ret'
  s_stop
  refine LoneTo.done ⟨.returned (.tuple #[.int .i64 0, .bool false]), _, rfl, ⟨rfl, rfl⟩, rfl, rfl, rfl, rfl, _, Try.func11, by simp [results, Try.f11, Frame.at]⟩


/-! ### queues of string -/
set_option maxRecDepth 100000 in
set_option maxHeartbeats 1600000 in
theorem sput_room (q c cap : Nat) (L : List Value) (x : ByteArray) (w : World) (h : Row w q [.chan (some c)] 61) (k : Ch w c cap L) (hr : L.length < cap) :
    Calls Try.prog 20 #[.pointer (some ⟨q, 0, none⟩), .string x] w fun e w' => e = .returned (.bool true) ∧ (Only c w w' ∧ Ch w' c cap (L ++ [.string x])) := by
  have h0 := h.cell 0
  simp only [List.getElem?_cons_zero] at h0
  have hl := h.lt
  obtain ⟨s, r, kc⟩ := k
  have kl : c < w.heap.size := Ch.lt (cap := cap) (L := L) ⟨s, r, kc⟩
  refine calls_of_loneTo fun cs => ?_
  have e : Frame.enter Try.prog 20 #[.pointer (some ⟨q, 0, none⟩), .string x] .normal = (base 20).at ⟨#[.pointer (some ⟨q, 0, none⟩), .string x, undef, undef, undef, undef, undef, undef, undef, undef, undef], []⟩ [.code (Try.f20.body.getD .skip)] := by
    simp [Frame.enter, Frame.at, Try.func20, base, Try.f20]
  rw [e]
  refine LoneTo.goes (n := 90) ?_
  simp only [Try.f20, Option.getD_some]
  repeat (first | s_c stepG_seq | s_reg | s_op | s_c stepG_region_end)
  s_call Try.func25 (by kernel_rfl) Try.f25
  repeat (first | s_c stepG_seq | s_reg | s_op | s_c stepG_region_end)
  s_cond false
  repeat (first | s_c stepG_seq | s_c stepG_skip | s_reg | s_op | s_c stepG_region_end)
  s_c stepG_ret'
  s_leave1 Try.func25
  repeat (first | s_c stepG_seq | s_reg | s_op | s_c stepG_region_end)
  s_stop
  refine LoneTo.step (step_lone_select_send_room (c := c) (cap := cap) (buf := L.toArray) (s := s) (r := r) (tm := false) (stepG_comm (cases := #[scase c (.string x) (.string ⟨#[]⟩)]) (blocking := false) (shape := .select) (w' := w) rfl rfl (by decide) (by simp [go_sem, execOp, scase, Act.eval])) kc (by simpa using hr)) ?_
  rw [Frame.finish_at]
  walk_nrm
  refine LoneTo.goes (n := 60) ?_
  repeat (first | s_c stepG_seq | s_reg | s_op | s_c stepG_region_end | s_c stepG_block)
  s_cond true
  repeat (first | s_c stepG_seq | s_c stepG_block | s_c stepG_skip | s_reg | s_op | s_c stepG_region_end)
  s_c stepG_ret'
  s_stop
  refine LoneTo.done ⟨.returned (.bool true), _, rfl, ⟨rfl, ⟨Only.chan _ _ _ _ _ _ _ _, s + 1, r, by simpa using heap_setChan w c cap (L.toArray.push (.string x)) false (s + 1) r false kl⟩⟩, rfl, rfl, rfl, rfl, _, Try.func20, by simp [results, Try.f20, Frame.at]⟩

set_option maxRecDepth 100000 in
set_option maxHeartbeats 1600000 in
theorem sput_full (q c cap : Nat) (L : List Value) (x : ByteArray) (w : World) (h : Row w q [.chan (some c)] 61) (k : Ch w c cap L) (hr : cap ≤ L.length) :
    Calls Try.prog 20 #[.pointer (some ⟨q, 0, none⟩), .string x] w fun e w' => e = .returned (.bool false) ∧ (w = w') := by
  have h0 := h.cell 0
  simp only [List.getElem?_cons_zero] at h0
  have hl := h.lt
  obtain ⟨s, r, kc⟩ := k
  have kl : c < w.heap.size := Ch.lt (cap := cap) (L := L) ⟨s, r, kc⟩
  refine calls_of_loneTo fun cs => ?_
  have e : Frame.enter Try.prog 20 #[.pointer (some ⟨q, 0, none⟩), .string x] .normal = (base 20).at ⟨#[.pointer (some ⟨q, 0, none⟩), .string x, undef, undef, undef, undef, undef, undef, undef, undef, undef], []⟩ [.code (Try.f20.body.getD .skip)] := by
    simp [Frame.enter, Frame.at, Try.func20, base, Try.f20]
  rw [e]
  refine LoneTo.goes (n := 90) ?_
  simp only [Try.f20, Option.getD_some]
  repeat (first | s_c stepG_seq | s_reg | s_op | s_c stepG_region_end)
  s_call Try.func25 (by kernel_rfl) Try.f25
  repeat (first | s_c stepG_seq | s_reg | s_op | s_c stepG_region_end)
  s_cond false
  repeat (first | s_c stepG_seq | s_c stepG_skip | s_reg | s_op | s_c stepG_region_end)
  s_c stepG_ret'
  s_leave1 Try.func25
  repeat (first | s_c stepG_seq | s_reg | s_op | s_c stepG_region_end)
  s_stop
  refine LoneTo.step (step_lone_select_send_full (c := c) (cap := cap) (buf := L.toArray) (s := s) (r := r) (tm := false) (stepG_comm (cases := #[scase c (.string x) (.string ⟨#[]⟩)]) (blocking := false) (shape := .select) (w' := w) rfl rfl (by decide) (by simp [go_sem, execOp, scase, Act.eval])) kc (by simpa using hr)) ?_
  rw [Frame.finish_at]
  walk_nrm
  refine LoneTo.goes (n := 60) ?_
  repeat (first | s_c stepG_seq | s_reg | s_op | s_c stepG_region_end | s_c stepG_block)
  s_cond false
  repeat (first | s_c stepG_seq | s_c stepG_block | s_c stepG_skip | s_reg | s_op | s_c stepG_region_end)
  s_c stepG_ret'
  s_stop
  refine LoneTo.done ⟨.returned (.bool false), _, rfl, ⟨rfl, rfl⟩, rfl, rfl, rfl, rfl, _, Try.func20, by simp [results, Try.f20, Frame.at]⟩

set_option maxRecDepth 100000 in
set_option maxHeartbeats 1600000 in
theorem stake_some (q c cap : Nat) (L : List Value) (x : ByteArray) (w : World) (h : Row w q [.chan (some c)] 61) (k : Ch w c cap (.string x :: L)) :
    Calls Try.prog 22 #[.pointer (some ⟨q, 0, none⟩)] w fun e w' => e = .returned (.tuple #[.string x, .bool true]) ∧ (Only c w w' ∧ Ch w' c cap L) := by
  have h0 := h.cell 0
  simp only [List.getElem?_cons_zero] at h0
  have hl := h.lt
  obtain ⟨s, r, kc⟩ := k
  have kl : c < w.heap.size := Ch.lt (cap := cap) (L := .string x :: L) ⟨s, r, kc⟩
  refine calls_of_loneTo fun cs => ?_
  have e : Frame.enter Try.prog 22 #[.pointer (some ⟨q, 0, none⟩)] .normal = (base 22).at ⟨#[.pointer (some ⟨q, 0, none⟩), undef, undef, undef, undef, undef, undef, undef, undef, undef, undef, undef, undef, undef], []⟩ [.code (Try.f22.body.getD .skip)] := by
    simp [Frame.enter, Frame.at, Try.func22, base, Try.f22]
  rw [e]
  refine LoneTo.goes (n := 90) ?_
  simp only [Try.f22, Option.getD_some]
  repeat (first | s_c stepG_seq | s_reg | s_op | s_c stepG_region_end)
  s_call Try.func25 (by kernel_rfl) Try.f25
  repeat (first | s_c stepG_seq | s_reg | s_op | s_c stepG_region_end)
  s_cond false
  repeat (first | s_c stepG_seq | s_c stepG_skip | s_reg | s_op | s_c stepG_region_end)
  s_c stepG_ret'
  s_leave1 Try.func25
  repeat (first | s_c stepG_seq | s_reg | s_op | s_c stepG_region_end)
  s_stop
  refine LoneTo.step (step_lone_select_recv_buf (c := c) (z := .string ⟨#[]⟩) (cap := cap) (buf := (.string x :: L).toArray) (closed := false) (s := s) (r := r) (tm := false) (stepG_comm (cases := #[rcase c (.string ⟨#[]⟩)]) (blocking := false) (shape := .select) (w' := w) rfl rfl (by decide) (by simp [go_sem, execOp, rcase, Act.eval])) kc (by simp)) ?_
  rw [show (.string x :: L).toArray.getD 0 undef = .string x by simp]
  rw [Frame.finish_at]
  walk_nrm
  refine LoneTo.goes (n := 60) ?_
  repeat (first | s_c stepG_seq | s_reg | s_op | s_c stepG_region_end | s_c stepG_block)
  s_cond true
  repeat (first | s_c stepG_seq | s_c stepG_block | s_c stepG_skip | s_reg | s_op | s_c stepG_region_end)
  s_c stepG_ret'
  s_stop
  refine LoneTo.done ⟨.returned (.tuple #[.string x, .bool true]), _, rfl, ⟨rfl, ⟨Only.chan _ _ _ _ _ _ _ _, s, r + 1, by simpa using heap_setChan w c cap ((.string x :: L).toArray.extract 1 (.string x :: L).toArray.size) false s (r + 1) false kl⟩⟩, rfl, rfl, rfl, rfl, _, Try.func22, by simp [results, Try.f22, Frame.at]⟩

set_option maxRecDepth 100000 in
set_option maxHeartbeats 1600000 in
theorem stake_none (q c cap : Nat) (w : World) (h : Row w q [.chan (some c)] 61) (k : Ch w c cap []) :
    Calls Try.prog 22 #[.pointer (some ⟨q, 0, none⟩)] w fun e w' => e = .returned (.tuple #[.string ⟨#[]⟩, .bool false]) ∧ w = w' := by
  have h0 := h.cell 0
  simp only [List.getElem?_cons_zero] at h0
  have hl := h.lt
  obtain ⟨s, r, kc⟩ := k
  have kl : c < w.heap.size := Ch.lt (cap := cap) (L := []) ⟨s, r, kc⟩
  refine calls_of_loneTo fun cs => ?_
  have e : Frame.enter Try.prog 22 #[.pointer (some ⟨q, 0, none⟩)] .normal = (base 22).at ⟨#[.pointer (some ⟨q, 0, none⟩), undef, undef, undef, undef, undef, undef, undef, undef, undef, undef, undef, undef, undef], []⟩ [.code (Try.f22.body.getD .skip)] := by
    simp [Frame.enter, Frame.at, Try.func22, base, Try.f22]
  rw [e]
  refine LoneTo.goes (n := 90) ?_
  simp only [Try.f22, Option.getD_some]
  repeat (first | s_c stepG_seq | s_reg | s_op | s_c stepG_region_end)
  s_call Try.func25 (by kernel_rfl) Try.f25
  repeat (first | s_c stepG_seq | s_reg | s_op | s_c stepG_region_end)
  s_cond false
  repeat (first | s_c stepG_seq | s_c stepG_skip | s_reg | s_op | s_c stepG_region_end)
  s_c stepG_ret'
  s_leave1 Try.func25
  repeat (first | s_c stepG_seq | s_reg | s_op | s_c stepG_region_end)
  s_stop
  refine LoneTo.step (step_lone_select_default (c := c) (z := .string ⟨#[]⟩) (cap := cap) (s := s) (r := r) (tm := false) (stepG_comm (cases := #[rcase c (.string ⟨#[]⟩)]) (blocking := false) (shape := .select) (w' := w) rfl rfl (by decide) (by simp [go_sem, execOp, rcase, Act.eval])) kc) ?_
  rw [Frame.finish_at]
  walk_nrm
  refine LoneTo.goes (n := 60) ?_
  repeat (first | s_c stepG_seq | s_reg | s_op | s_c stepG_region_end | s_c stepG_block)
  s_cond false
  repeat (first | s_c stepG_seq | s_c stepG_block | s_c stepG_skip | s_reg | s_op | s_c stepG_region_end)
  s_c stepG_ret'
  s_stop
  refine LoneTo.done ⟨.returned (.tuple #[.string ⟨#[]⟩, .bool false]), _, rfl, ⟨rfl, rfl⟩, rfl, rfl, rfl, rfl, _, Try.func22, by simp [results, Try.f22, Frame.at]⟩

end Go.Proofs.Ytjmkkidlaebpmab
