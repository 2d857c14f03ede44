/-
  Layer 19, the walks: the law of plays.
-/
import Derived.Test.YtjmkkidlaebpmabQi
set_option linter.unusedSimpArgs false
set_option linter.unusedVariables false
namespace Go.Proofs.Ytjmkkidlaebpmab
open Go.Conc Go.RowKit

/-- a queue that holds LQ, with room r, and the page's row: LR with room rr at lv -/
structure QS (w : World) (bw q c r : Nat) (LQ : List Int) (rr : Nat) (LR : List Int) (lv : Value) (U : World) : Prop where
  hq : Row U q [.chan (some c)] 57
  hc : Ch U c r (LQ.map (Value.int .i64))
  hw : Row U bw [lv, .int .i64 (rr : Int)] 30
  hl : SlAt U lv 1 LR.length (LR.map (Value.int .i64))
  hb : Below w.heap.size w U
  hn : NB lv bw
theorem QS.below {w : World} {bw q c r : Nat} {LQ : List Int} {rr : Nat} {LR : List Int} {lv : Value} {U U' : World} (h : QS w bw q c r LQ rr LR lv U) (k : Below U.heap.size U U') : QS w bw q c r LQ rr LR lv U' :=
  ⟨h.hq.below k, h.hc.below k, h.hw.below k, h.hl.below k, h.hb.trans (k.mono h.hb.size), h.hn⟩
theorem QS.chan {w : World} {bw q c r : Nat} {LQ LQ' : List Int} {rr : Nat} {LR : List Int} {lv : Value} {U U' : World} (h : QS w bw q c r LQ rr LR lv U) (k : Only c U U') (hc : Ch U' c r (LQ'.map (Value.int .i64))) (hcw : w.heap.size ≤ c) : QS w bw q c r LQ' rr LR lv U' :=
  ⟨h.hq.only k (h.hq.ne_ch h.hc), hc, h.hw.only k (h.hw.ne_ch h.hc), h.hl.only k h.hc, h.hb.trans (k.below hcw h.hb.size), h.hn⟩
theorem QS.set {w : World} {bw q c r : Nat} {LQ : List Int} {rr : Nat} {LR LR' : List Int} {lv lv' : Value} {U : World} (h : QS w bw q c r LQ rr LR lv U) (hq : q ≠ bw) (hl : SlAt U lv' 1 LR'.length (LR'.map (Value.int .i64))) (hn : NB lv' bw) (hbw : w.heap.size ≤ bw) :
    QS w bw q c r LQ rr LR' lv' (U.setCell ⟨bw, 0, none⟩ lv') :=
  ⟨h.hq.oth hq 0 _, h.hc.oth (fun e => (h.hw.ne_ch h.hc) e.symm) 0 _, h.hw.set 0 lv', hl.set hn 0 _, h.hb.setCell hbw _, hn⟩
theorem QS.room {w : World} {bw q c r : Nat} {LQ : List Int} {rr rr' : Nat} {LR : List Int} {lv : Value} {U : World} (h : QS w bw q c r LQ rr LR lv U) (hq : q ≠ bw) (hbw : w.heap.size ≤ bw) :
    QS w bw q c r LQ rr' LR lv (U.setCell ⟨bw, 1, none⟩ (.int .i64 (rr' : Int))) :=
  ⟨h.hq.oth hq 1 _, h.hc.oth (fun e => (h.hw.ne_ch h.hc) e.symm) 1 _, h.hw.set 1 _, h.hl.set h.hn 1 _, h.hb.setCell hbw _, h.hn⟩

/-! ### the calls, over both -/
section
variable {w : World} {bw q c r : Nat} {LQ : List Int} {rr : Nat} {LR : List Int} {lv : Value} {U : World}
theorem QS.drain (h : QS w bw q c r LQ rr LR lv U) (hL : LQ.length ≤ 400000) (hcw : w.heap.size ≤ c) :
    Calls Try.prog 13 #[.pointer (some ⟨q, 0, none⟩)] U fun e w' => ∃ v, e = .returned v ∧ QS w bw q c r [] rr LR lv w' ∧ SlAt w' v 1 LQ.length (LQ.map (Value.int .i64)) :=
  (idrain_any q c r LQ U hL h.hq h.hc).mono fun e w' ⟨v, e1, o, k, ow⟩ => ⟨v, e1, h.chan o k hcw, SlAt.own ow⟩
theorem QS.put_room (h : QS w bw q c r LQ rr LR lv U) (x : Int) (hr : LQ.length < r) (hcw : w.heap.size ≤ c) :
    Calls Try.prog 9 #[.pointer (some ⟨q, 0, none⟩), .int .i64 x] U fun e w' => e = .returned (.bool true) ∧ (QS w bw q c r (LQ ++ [x]) rr LR lv w' ∧ Only c U w') :=
  (iput_room q c r _ x U h.hq h.hc (by simpa using hr)).mono fun e w' ⟨e1, o, k⟩ => ⟨e1, h.chan o (by rw [List.map_append]; exact k) hcw, o⟩
theorem QS.put_full (h : QS w bw q c r LQ rr LR lv U) (x : Int) (hr : r ≤ LQ.length) :
    Calls Try.prog 9 #[.pointer (some ⟨q, 0, none⟩), .int .i64 x] U fun e w' => e = .returned (.bool false) ∧ U = w' :=
  iput_full q c r _ x U h.hq h.hc (by simpa using hr)
theorem QS.take_some {x : Int} (h : QS w bw q c r (x :: LQ) rr LR lv U) (hcw : w.heap.size ≤ c) :
    Calls Try.prog 11 #[.pointer (some ⟨q, 0, none⟩)] U fun e w' => e = .returned (.tuple #[.int .i64 x, .bool true]) ∧ (QS w bw q c r LQ rr LR lv w' ∧ Only c U w') :=
  (itake_some q c r _ x U h.hq h.hc).mono fun e w' ⟨e1, o, k⟩ => ⟨e1, h.chan o k hcw, o⟩
theorem QS.take_none (h : QS w bw q c r [] rr LR lv U) :
    Calls Try.prog 11 #[.pointer (some ⟨q, 0, none⟩)] U fun e w' => e = .returned (.tuple #[.int .i64 0, .bool false]) ∧ U = w' :=
  itake_none q c r U h.hq h.hc
theorem QS.len (h : QS w bw q c r LQ rr LR lv U) :
    Calls Try.prog 15 #[.pointer (some ⟨q, 0, none⟩)] U fun e w' => e = .returned (.int .i64 (LQ.length : Int)) ∧ U = w' :=
  (ilen_any q c r _ U h.hq h.hc).mono fun e w' ⟨e1, o⟩ => ⟨by rw [e1]; simp, o⟩
theorem QS.same (h : QS w bw q c r [] rr LR lv U) {v : Value} (hv : SlAt U v 1 LR.length (LR.map (Value.int .i64))) (hl : LR.length ≤ 400000) :
    Calls Try.prog 12 #[v, lv] U fun e w' => e = .returned (.bool true) ∧ Below U.heap.size U w' := qsame_any v lv LR U hv h.hl hl
theorem QS.is (h : QS w bw q c r LQ r LQ lv U) :
    Calls Try.prog 16 #[.pointer (some ⟨q, 0, none⟩), .agg #[lv, .int .i64 (r : Int)]] U fun e w' => e = .returned (.bool true) ∧ Below U.heap.size U w' := by
  have hl := h.hl
  obtain ⟨e1, ⟨rfl, h0⟩ | ⟨a, cap, rfl, _⟩⟩ := hl
  · exact is_nil q c r _ U h.hq h.hc (by simpa using h0)
  · exact is_some q c r a _ cap _ U h.hq h.hc (by simp)
theorem rput_room {L : List Int} {v : Value} {U : World} (h : SlAt U v 1 L.length (L.map (Value.int .i64))) (hn : L.length ≤ 20000) (room x : Int) (hr : (L.length : Int) < room) :
    Calls Try.prog 8 #[.agg #[v, .int .i64 room], .int .i64 x] U fun e w' => ∃ v2, e = .returned (.tuple #[.agg #[v2, .int .i64 room], .bool true]) ∧ Below U.heap.size U w' ∧ SlAt w' v2 1 (L ++ [x]).length ((L ++ [x]).map (Value.int .i64)) ∧ ∀ b, b < U.heap.size → NB v2 b := by
  have oc : ∀ u ∈ L.map (Value.int .i64), u.oneCell' = true := fun u hu => by obtain ⟨a, _, rfl⟩ := List.mem_map.1 hu; rfl
  have h' := h
  obtain ⟨e1, ⟨rfl, h0⟩ | ⟨a, cap, rfl, _⟩⟩ := h'
  · rw [h0] at h hr
    refine (rput_room_nil room x _ U h oc (by simpa using hr)).mono fun e w' ⟨v, e2, b, s, nb⟩ => ⟨v, e2, b, ?_, nb⟩
    rw [List.map_append, List.length_append, h0]
    exact s
  · refine (rput_room_some a _ cap room x _ U h oc hn hr).mono fun e w' ⟨v, e2, b, s, nb⟩ => ⟨v, e2, b, ?_, nb⟩
    rw [List.map_append, List.length_append]
    exact s
theorem rput_full {L : List Int} {v : Value} {U : World} (h : SlAt U v 1 L.length (L.map (Value.int .i64))) (room x : Int) (hr : room ≤ (L.length : Int)) :
    Calls Try.prog 8 #[.agg #[v, .int .i64 room], .int .i64 x] U fun e w' => e = .returned (.tuple #[.agg #[v, .int .i64 room], .bool false]) ∧ Below U.heap.size U w' := by
  have h' := h
  obtain ⟨e1, ⟨rfl, h0⟩ | ⟨a, cap, rfl, _⟩⟩ := h'
  · rw [h0] at h hr
    exact rput_full_nil room x _ U h (by simpa using hr)
  · exact rput_full_some a _ cap room x _ U h hr
theorem rtake_empty {v : Value} {U : World} (h : SlAt U v 1 0 []) (room : Int) :
    Calls Try.prog 10 #[.agg #[v, .int .i64 room]] U fun e w' => e = .returned (.tuple #[.agg #[v, .int .i64 room], .int .i64 0, .bool false]) ∧ Below U.heap.size U w' := by
  obtain ⟨_, ⟨rfl, _⟩ | ⟨a, cap, rfl, _⟩⟩ := h
  · exact rtake_nil room U
  · exact rtake_none a cap room U
theorem rtake_cons {x : Int} {L : List Int} {v : Value} {U : World} (h : SlAt U v 1 (x :: L).length ((x :: L).map (Value.int .i64))) (hn : L.length ≤ 20000) (room : Int) :
    Calls Try.prog 10 #[.agg #[v, .int .i64 room]] U fun e w' => ∃ v2, e = .returned (.tuple #[.agg #[v2, .int .i64 room], .int .i64 x, .bool true]) ∧ Below U.heap.size U w' ∧ SlAt w' v2 1 L.length (L.map (Value.int .i64)) ∧ ∀ b, NB v b → NB v2 b := by
  have h' := h
  obtain ⟨_, ⟨_, h0⟩ | ⟨a, cap, rfl, _⟩⟩ := h'
  · simp at h0
  · exact rtake_some a L.length cap room x _ U h hn
theorem QS.grown (h : QS w bw q c r LQ rr LR lv U) (m : Nat) (hl : LQ.length ≤ r) (h0 : 0 < r) (hm : r + m ≤ 200000) (hcw : w.heap.size ≤ c) :
    Calls Try.prog 14 #[.pointer (some ⟨q, 0, none⟩), .int .i64 (m : Int)] U fun e w' => ∃ q2 c2, e = .returned (.tuple #[.pointer (some ⟨q2, 0, none⟩), .int .i64 0]) ∧ QS w bw q c r [] rr LR lv w' ∧ QS w bw q2 c2 (r + m) LQ rr LR lv w' ∧ w.heap.size ≤ c2 ∧ bw < q2 ∧ Only c U w' :=
  (igrown_any q c r m LQ U h.hq h.hc hl h0 hm).mono fun e w' ⟨e1, o, k, k2, k3⟩ => by
    have a := h.chan (LQ' := []) o k hcw
    exact ⟨_, _, e1, a, ⟨k2, k3, a.hw, a.hl, a.hb, a.hn⟩, h.hb.size, Nat.lt_succ_of_lt h.hw.lt, o⟩
end

set_option maxRecDepth 100000 in
set_option maxHeartbeats 6400000 in
theorem QueuePlays_nil (room : Int) (w : World) :
    Calls Try.prog 3 #[.int .i64 room, .slice none 0 0] w fun e w' => e = .returned (.bool true) ∧ Below w.heap.size w w' := by
  have AW := Lib.hid (fun w => qawake_any w)
  by_cases c1 : room < 1
  · have d1 : decide (room < 1) = true := by simpa using c1
    clear c1
    go_enter Try.func3, Try.ntmps3
    go_wp2_with fail
    refine (AW.out _).mono ?_
    rintro e w1 ⟨rfl, b⟩
    have B := Lib.hid b
    clear b
    go_wp2
    go_ret
    exact ⟨by first | rfl | simp, B.out⟩
  by_cases c2 : 1000 < room
  · have d1 : decide (room < 1) = false := by simpa using c1
    have d2 : decide (1000 < room) = true := by simpa using c2
    clear c1 c2
    go_enter Try.func3, Try.ntmps3
    go_wp2_with fail
    refine (AW.out _).mono ?_
    rintro e w1 ⟨rfl, b⟩
    have B := Lib.hid b
    clear b
    go_wp2
    go_ret
    exact ⟨by first | rfl | simp, B.out⟩
  obtain ⟨r0, rfl⟩ : ∃ r : Nat, room = r := ⟨room.toNat, by omega⟩
  have d1 : decide ((r0 : Int) < 1) = false := by simpa using c1
  have d2 : decide (1000 < (r0 : Int)) = false := by simpa using c2
  have p0 := Lib.hid (show 0 < r0 by omega)
  have p1 := Lib.hid (show r0 ≤ 1000 by omega)
  clear c1 c2
  go_enter Try.func3, Try.ntmps3
  go_wp2_with fail
  refine (AW.out _).mono ?_
  rintro e w1 ⟨rfl, b⟩
  have B := Lib.hid b
  clear b
  have NN := Lib.hid (inew_any r0 w1 p0.out (by have := p1.out; omega))
  obtain ⟨m1, m2, m3⟩ := made w1 r0 57
  go_wp2_with fail
  refine NN.out.mono ?_
  rintro e w2 ⟨rfl, rfl⟩
  clear NN AW
  go_upto_region 9 with fail
  refine to_cls ?_
  intro W hW z
  have S0 := Lib.hid (show QS w (w1.heap.size + 1 + 1) (w1.heap.size + 1) w1.heap.size r0 [] r0 [] (.slice none 0 0) W from
    QS.below (U := _) ⟨m1.old _, m2.old _, Row.new' _ [.slice none 0 0, .int .i64 (r0 : Int)] _ _ (by simp), SlAt.nil _ _, (B.out.trans (m3.mono B.out.size)).alloc (by have := B.out.size; simp; omega) _, NB.nil _⟩ hW)
  have b0 := Lib.hid B.out.size
  clear m1 m2 m3 hW B
  obtain ⟨bw, hbw⟩ : ∃ b, b = w1.heap.size + 1 + 1 := ⟨_, rfl⟩
  rw [← hbw] at S0
  simp only [← hbw]
  obtain ⟨q0, hq0⟩ : ∃ b, b = w1.heap.size + 1 := ⟨_, rfl⟩
  rw [← hq0] at S0
  try rw [← hq0]
  obtain ⟨ch0, hc0⟩ : ∃ b, b = w1.heap.size := ⟨_, rfl⟩
  rw [← hc0] at S0
  have hcw := Lib.hid (show w.heap.size ≤ ch0 by rw [hc0]; exact b0.out)
  have hbwl := Lib.hid (show w.heap.size ≤ bw by rw [hbw]; have := b0.out; omega)
  have hqb := Lib.hid (show q0 ≠ bw by rw [hbw, hq0]; omega)
  clear hbw hq0 hc0 b0
  go_wp2_with fail
  go_loopw [5, 8] (fun qv i wr => ∃ (k q c r : Nat) (L : List Int) (lv : Value), i = .int .i64 (k : Int) ∧ qv = .pointer (some ⟨q, 0, none⟩) ∧ k ≤ 0 ∧ k ≤ 80 ∧ QS w bw q c r L r L lv wr ∧ L.length ≤ r ∧ 0 < r ∧ r ≤ 1000 + 100 * k ∧ w.heap.size ≤ c ∧ q ≠ bw) (fun _ i _ => 0 - (intOf i).toNat)
  case atStart => exact ⟨0, q0, ch0, r0, [], _, rfl, rfl, by omega, by omega, S0.out.below z.bel, by simp, p0.out, by have := p1.out; omega, hcw.out, hqb.out⟩
  case round =>
    obtain ⟨k, q, c, r, L, lv, rfl, rfl, hk, hk8, hS, hLr, hr0, hr1, hcw, hqb1⟩ := hrel
    obtain ⟨lp, ln, lc, rfl⟩ := hS.hl.form
    have S := Lib.hid hS
    have HCW := Lib.hid hcw
    have lb := Lib.hid (show L.length ≤ 400000 by omega)
    clear hS hcw
    have hcw := HCW
    clear HCW
    have HQB := Lib.hid hqb1
    clear hqb1
    obtain rfl : k = 0 := by omega
    go_wp2_with fail
    go_region_held3 (fun w' => w'.cell? ⟨bw, 0, none⟩ = some (.slice lp ln lc)) (first | exact S.out.hw.cell 0 | exact SD.out.hw.cell 0 | exact SE.out.hw.cell 0)
      (first | (go_at_call 13; refine (QS.drain (U := _) (h := S.out.below (Below.refl _ _).drew) lb.out hcw.out).mono ?_; rintro e w3 ⟨v3, rfl, s3, t3⟩; have SD := Lib.hid s3; have TD := Lib.hid t3; clear s3 t3) | (go_at_call 12; refine (QS.same SD.out TD.out lb.out).mono ?_; rintro e w4 ⟨rfl, b4⟩; have SE := Lib.hid (SD.out.below b4); clear b4) | (go_at_call 15; refine (QS.len SE.out).mono ?_; rintro e w5 ⟨rfl, rfl⟩))
    go_wp2
    go_ret
    exact ⟨by first | rfl | simp, SE.out.hb⟩

set_option maxRecDepth 100000 in
set_option maxHeartbeats 6400000 in
theorem QueuePlays_some (a : Addr) (n cap : Nat) (KX : Nat → Int × Int) (room : Int) (w : World) (hs : ∀ i, i < n → w.cell? (a.add (i * 2)) = some (.int .i64 (KX i).1) ∧ w.cell? (a.add (i * 2 + 1)) = some (.int .i64 (KX i).2)) (nmax : n ≤ 9223372036854775807) (hx : ∀ i, i < n → -9223372036854775808 ≤ (KX i).2 ∧ (KX i).2 ≤ 9223372036854775807) :
    Calls Try.prog 3 #[.int .i64 room, .slice (some a) n cap] w fun e w' => e = .returned (.bool true) ∧ Below w.heap.size w w' := by
  have AW := Lib.hid (fun w => qawake_any w)
  have HS := Lib.hid hs
  have BX := Lib.hid hx
  clear hs hx
  by_cases c1 : room < 1
  · have d1 : decide (room < 1) = true := by simpa using c1
    clear c1
    go_enter Try.func3, Try.ntmps3
    go_wp2_with fail
    refine (AW.out _).mono ?_
    rintro e w1 ⟨rfl, b⟩
    have B := Lib.hid b
    clear b
    go_wp2
    go_ret
    exact ⟨by first | rfl | simp, B.out⟩
  by_cases c2 : 1000 < room
  · have d1 : decide (room < 1) = false := by simpa using c1
    have d2 : decide (1000 < room) = true := by simpa using c2
    clear c1 c2
    go_enter Try.func3, Try.ntmps3
    go_wp2_with fail
    refine (AW.out _).mono ?_
    rintro e w1 ⟨rfl, b⟩
    have B := Lib.hid b
    clear b
    go_wp2
    go_ret
    exact ⟨by first | rfl | simp, B.out⟩
  obtain ⟨r0, rfl⟩ : ∃ r : Nat, room = r := ⟨room.toNat, by omega⟩
  have d1 : decide ((r0 : Int) < 1) = false := by simpa using c1
  have d2 : decide (1000 < (r0 : Int)) = false := by simpa using c2
  have p0 := Lib.hid (show 0 < r0 by omega)
  have p1 := Lib.hid (show r0 ≤ 1000 by omega)
  clear c1 c2
  go_enter Try.func3, Try.ntmps3
  go_wp2_with fail
  refine (AW.out _).mono ?_
  rintro e w1 ⟨rfl, b⟩
  have B := Lib.hid b
  clear b
  have NN := Lib.hid (inew_any r0 w1 p0.out (by have := p1.out; omega))
  obtain ⟨m1, m2, m3⟩ := made w1 r0 57
  go_wp2_with fail
  refine NN.out.mono ?_
  rintro e w2 ⟨rfl, rfl⟩
  clear NN AW
  go_upto_region 9 with fail
  refine to_cls ?_
  intro W hW z
  have S0 := Lib.hid (show QS w (w1.heap.size + 1 + 1) (w1.heap.size + 1) w1.heap.size r0 [] r0 [] (.slice none 0 0) W from
    QS.below (U := _) ⟨m1.old _, m2.old _, Row.new' _ [.slice none 0 0, .int .i64 (r0 : Int)] _ _ (by simp), SlAt.nil _ _, (B.out.trans (m3.mono B.out.size)).alloc (by have := B.out.size; simp; omega) _, NB.nil _⟩ hW)
  have b0 := Lib.hid B.out.size
  clear m1 m2 m3 hW B
  obtain ⟨bw, hbw⟩ : ∃ b, b = w1.heap.size + 1 + 1 := ⟨_, rfl⟩
  rw [← hbw] at S0
  simp only [← hbw]
  obtain ⟨q0, hq0⟩ : ∃ b, b = w1.heap.size + 1 := ⟨_, rfl⟩
  rw [← hq0] at S0
  try rw [← hq0]
  obtain ⟨ch0, hc0⟩ : ∃ b, b = w1.heap.size := ⟨_, rfl⟩
  rw [← hc0] at S0
  have hcw := Lib.hid (show w.heap.size ≤ ch0 by rw [hc0]; exact b0.out)
  have hbwl := Lib.hid (show w.heap.size ≤ bw by rw [hbw]; have := b0.out; omega)
  have hqb := Lib.hid (show q0 ≠ bw by rw [hbw, hq0]; omega)
  clear hbw hq0 hc0 b0
  go_wp2_with fail
  go_loopw [5, 8] (fun qv i wr => ∃ (k q c r : Nat) (L : List Int) (lv : Value), i = .int .i64 (k : Int) ∧ qv = .pointer (some ⟨q, 0, none⟩) ∧ k ≤ n ∧ k ≤ 80 ∧ QS w bw q c r L r L lv wr ∧ L.length ≤ r ∧ 0 < r ∧ r ≤ 1000 + 100 * k ∧ w.heap.size ≤ c ∧ q ≠ bw) (fun _ i _ => n - (intOf i).toNat)
  case atStart => exact ⟨0, q0, ch0, r0, [], _, rfl, rfl, by omega, by omega, S0.out.below z.bel, by simp, p0.out, by have := p1.out; omega, hcw.out, hqb.out⟩
  case round =>
    obtain ⟨k, q, c, r, L, lv, rfl, rfl, hk, hk8, hS, hLr, hr0, hr1, hcw, hqb1⟩ := hrel
    obtain ⟨lp, ln, lc, rfl⟩ := hS.hl.form
    have S := Lib.hid hS
    have HCW := Lib.hid hcw
    have lb := Lib.hid (show L.length ≤ 400000 by omega)
    clear hS hcw
    have hcw := HCW
    clear HCW
    have HQB := Lib.hid hqb1
    clear hqb1
    by_cases ck : k < n
    · by_cases c80 : k < 80
      · have e1 : decide ((k : Int) < (n : Int)) = true := by simp; omega
        have e2 : decide ((k : Int) < 80) = true := by simp; omega
        have i0 : (0 : Int) ≤ (k : Int) := by omega
        have i1 : (k : Int) < (n : Int) := by omega
        obtain ⟨x0, x1⟩ := HS.out k ck
        obtain ⟨K, hK⟩ : ∃ K, K = (KX k).1 := ⟨_, rfl⟩
        obtain ⟨X, hX⟩ : ∃ X, X = (KX k).2 := ⟨_, rfl⟩
        have xb := Lib.hid (show -9223372036854775808 ≤ X ∧ X ≤ 9223372036854775807 by rw [hX]; exact BX.out k ck)
        rw [← hK] at x0
        rw [← hX] at x1
        clear hK hX
        have y0 : wr.cell? (a.add (k * 2)) = some (.int .i64 K) := (S.out.hb.cell (World.block_lt_of_cell? w _ x0)).trans x0
        have y1 : wr.cell? (a.add (k * 2 + 1)) = some (.int .i64 X) := (S.out.hb.cell (World.block_lt_of_cell? w _ x1)).trans x1
        rw [← add_add, add_one] at y1
        clear x0 x1
        go_upto_region 13 with fail
        refine to_cls ?_
        intro U hU z
        have r_o : ∀ z : Wb U, Row z.at wr.heap.size [.int .i64 K, .int .i64 X] 32 := Row.next (Row.new _ [.int .i64 K, .int .i64 X] _) hU
        have SU := Lib.hid (fun z : Wb U => (S.out.below (((Below.refl _ _).alloc (Nat.le_refl _) _).trans (hU.mono (by simp)))).below z.bel)
        have ob := Lib.hid (show w.heap.size ≤ wr.heap.size from S.out.hb.size)
        have bo := Lib.hid (show bw ≠ wr.heap.size by have := S.out.hw.lt; omega)
        have wo := Lib.hid (show q ≠ wr.heap.size by have := S.out.hq.lt; omega)
        have co := Lib.hid (show c ≠ wr.heap.size by have := S.out.hc.lt; omega)
        clear hU y0 y1
        obtain ⟨O, hO⟩ : ∃ O, O = wr.heap.size := ⟨_, rfl⟩
        rw [← hO] at r_o ob bo wo co
        simp only [← hO]
        clear hO S
        have o0 : ∀ z : Wb U, z.at.cell? ⟨O, 0, none⟩ = some (.int .i64 K) := fun z => (r_o z).cell 0
        have o1 : ∀ z : Wb U, z.at.cell? ⟨O, 1, none⟩ = some (.int .i64 X) := fun z => (r_o z).cell 1
        have w0 : ∀ z : Wb U, z.at.cell? ⟨bw, 0, none⟩ = some (.slice lp ln lc) := fun z => (SU.out z).hw.cell 0
        have w1c : ∀ z : Wb U, z.at.cell? ⟨bw, 1, none⟩ = some (.int .i64 (r : Int)) := fun z => (SU.out z).hw.cell 1
        have wf : ∀ (z : Wb U) (i : Nat), z.at.frozen? ⟨bw, i, none⟩ = false := fun z i => (SU.out z).hw.free i
        by_cases k0 : K = 0
        · subst k0
          by_cases cf : L.length < r
          · go_wp2_with fail
            refine (rput_room (SU.out z).hl (by omega) r X (by omega)).mono ?_
            rintro e w2 ⟨v2, rfl, b2, s2, nb⟩
            obtain ⟨p2, m2, c3, rfl⟩ := s2.form
            have nb2 := Lib.hid (nb bw (SU.out z).hw.lt)
            clear nb
            obtain ⟨x2, rfl⟩ := Wb.next (x := z) b2
            go_upto_region 16 with fail
            refine to_cls ?_
            intro U2 hU2 z2
            have S2 := Lib.hid (fun z : Wb U2 => (((SU.out x2).below ((Below.refl _ _).alloc (Nat.le_refl _) _)).below hU2).below z.bel)
            have r_p : ∀ z : Wb U2, Row z.at x2.at.heap.size [(.slice p2 m2 c3), .int .i64 (r : Int)] 30 := Row.next (Row.new _ [(.slice p2 m2 c3), .int .i64 (r : Int)] _) hU2
            have r_o2 : ∀ z : Wb U2, Row z.at O [.int .i64 0, .int .i64 X] 32 := Row.next ((r_o x2).old _) hU2
            have T2 := Lib.hid (fun z : Wb U2 => ((s2.below ((Below.refl _ _).alloc (Nat.le_refl _) _)).below hU2).below z.bel)
            have pc := Lib.hid (show x2.at.heap.size ≠ c by have := (SU.out x2).hc.lt; omega)
            obtain ⟨B2, hB2⟩ : ∃ b, b = x2.at.heap.size := ⟨_, rfl⟩
            rw [← hB2] at r_p pc
            simp only [← hB2]
            clear hB2 hU2 s2 b2 o0 o1 w0 w1c wf
            have o1 : ∀ z : Wb U2, z.at.cell? ⟨O, 1, none⟩ = some (.int .i64 X) := fun z => (r_o2 z).cell 1
            go_wp2_with fail
            refine (QS.put_room (S2.out z2) X cf hcw.out).mono ?_
            rintro e w3 ⟨rfl, s3, o3⟩
            go_upto_region 18 with fail
            refine to_cls ?_
            intro U3 hU3 z3
            have S3 := Lib.hid (fun z : Wb U3 => (((s3)).below hU3).below z.bel)
            have r_p3 : ∀ z : Wb U3, Row z.at B2 [(.slice p2 m2 c3), .int .i64 (r : Int)] 30 := Row.next ((r_p z2).only o3 pc.out) hU3
            have T3 := Lib.hid (fun z : Wb U3 => (((T2.out z2).only o3 (S2.out z2).hc).below hU3).below z.bel)
            clear o1 hU3 s3 o3
            have p0c : ∀ z : Wb U3, z.at.cell? ⟨B2, 0, none⟩ = some ((.slice p2 m2 c3)) := fun z => (r_p3 z).cell 0
            have p1c : ∀ z : Wb U3, z.at.cell? ⟨B2, 1, none⟩ = some (.int .i64 (r : Int)) := fun z => (r_p3 z).cell 1
            have w0 : ∀ z : Wb U3, z.at.cell? ⟨bw, 0, none⟩ = some ((.slice lp ln lc)) := fun z => (S3.out z).hw.cell 0
            have w1c : ∀ z : Wb U3, z.at.cell? ⟨bw, 1, none⟩ = some (.int .i64 ((r : Nat) : Int)) := fun z => (S3.out z).hw.cell 1
            have wf : ∀ (z : Wb U3) (i : Nat), z.at.frozen? ⟨bw, i, none⟩ = false := fun z i => (S3.out z).hw.free i
            go_upto_region 35 with fail
            refine to_cls ?_
            intro U9 hU9 z9
            have S9 := Lib.hid (fun z : Wb U9 => (QS.below (U := _) (((S3.out z3).set (LR' := (L ++ [X])) HQB.out (T3.out z3) nb2.out hbwl.out).room (rr' := r) HQB.out hbwl.out) hU9).below z.bel)
            clear w0 w1c wf p0c p1c hU9
            have w0 : ∀ z : Wb U9, z.at.cell? ⟨bw, 0, none⟩ = some ((.slice p2 m2 c3)) := fun z => (S9.out z).hw.cell 0
            have w1c : ∀ z : Wb U9, z.at.cell? ⟨bw, 1, none⟩ = some (.int .i64 ((r : Nat) : Int)) := fun z => (S9.out z).hw.cell 1
            have wf : ∀ (z : Wb U9) (i : Nat), z.at.frozen? ⟨bw, i, none⟩ = false := fun z i => (S9.out z).hw.free i
            go_wp2_with fail
            refine (QS.is (S9.out z9)).mono ?_
            rintro e w5 ⟨rfl, b5⟩
            have S10 := Lib.hid ((S9.out z9).below b5)
            clear b5
            go_wp2
            go_roundw
            case rel => exact ⟨k + 1, q, c, r, (L ++ [X]), (.slice p2 m2 c3), by go_num, rfl, by omega, by omega, S10.out, by simp; omega, hr0, by omega, hcw.out, HQB.out⟩
            case measure => simp [intOf]; omega
          · go_wp2_with fail
            refine (rput_full (SU.out z).hl r X (by omega)).mono ?_
            rintro e w2 ⟨rfl, b2⟩
            have nb2 := Lib.hid (SU.out z).hn
            have s2 := (SU.out z).hl.below b2
            obtain ⟨x2, rfl⟩ := Wb.next (x := z) b2
            go_upto_region 16 with fail
            refine to_cls ?_
            intro U2 hU2 z2
            have S2 := Lib.hid (fun z : Wb U2 => (((SU.out x2).below ((Below.refl _ _).alloc (Nat.le_refl _) _)).below hU2).below z.bel)
            have r_p : ∀ z : Wb U2, Row z.at x2.at.heap.size [(.slice lp ln lc), .int .i64 (r : Int)] 30 := Row.next (Row.new _ [(.slice lp ln lc), .int .i64 (r : Int)] _) hU2
            have r_o2 : ∀ z : Wb U2, Row z.at O [.int .i64 0, .int .i64 X] 32 := Row.next ((r_o x2).old _) hU2
            have T2 := Lib.hid (fun z : Wb U2 => ((s2.below ((Below.refl _ _).alloc (Nat.le_refl _) _)).below hU2).below z.bel)
            have pc := Lib.hid (show x2.at.heap.size ≠ c by have := (SU.out x2).hc.lt; omega)
            obtain ⟨B2, hB2⟩ : ∃ b, b = x2.at.heap.size := ⟨_, rfl⟩
            rw [← hB2] at r_p pc
            simp only [← hB2]
            clear hB2 hU2 s2 b2 o0 o1 w0 w1c wf
            have o1 : ∀ z : Wb U2, z.at.cell? ⟨O, 1, none⟩ = some (.int .i64 X) := fun z => (r_o2 z).cell 1
            go_wp2_with fail
            refine (QS.put_full (S2.out z2) X (by omega)).mono ?_
            rintro e w3 ⟨rfl, rfl⟩
            go_upto_region 18 with fail
            refine to_cls ?_
            intro U3 hU3 z3
            have S3 := Lib.hid (fun z : Wb U3 => (((S2.out z2)).below hU3).below z.bel)
            have r_p3 : ∀ z : Wb U3, Row z.at B2 [(.slice lp ln lc), .int .i64 (r : Int)] 30 := Row.next ((r_p z2)) hU3
            have T3 := Lib.hid (fun z : Wb U3 => (((T2.out z2)).below hU3).below z.bel)
            clear o1 hU3 
            have p0c : ∀ z : Wb U3, z.at.cell? ⟨B2, 0, none⟩ = some ((.slice lp ln lc)) := fun z => (r_p3 z).cell 0
            have p1c : ∀ z : Wb U3, z.at.cell? ⟨B2, 1, none⟩ = some (.int .i64 (r : Int)) := fun z => (r_p3 z).cell 1
            have w0 : ∀ z : Wb U3, z.at.cell? ⟨bw, 0, none⟩ = some ((.slice lp ln lc)) := fun z => (S3.out z).hw.cell 0
            have w1c : ∀ z : Wb U3, z.at.cell? ⟨bw, 1, none⟩ = some (.int .i64 ((r : Nat) : Int)) := fun z => (S3.out z).hw.cell 1
            have wf : ∀ (z : Wb U3) (i : Nat), z.at.frozen? ⟨bw, i, none⟩ = false := fun z i => (S3.out z).hw.free i
            go_upto_region 35 with fail
            refine to_cls ?_
            intro U9 hU9 z9
            have S9 := Lib.hid (fun z : Wb U9 => (QS.below (U := _) (((S3.out z3).set (LR' := L) HQB.out (T3.out z3) nb2.out hbwl.out).room (rr' := r) HQB.out hbwl.out) hU9).below z.bel)
            clear w0 w1c wf p0c p1c hU9
            have w0 : ∀ z : Wb U9, z.at.cell? ⟨bw, 0, none⟩ = some ((.slice lp ln lc)) := fun z => (S9.out z).hw.cell 0
            have w1c : ∀ z : Wb U9, z.at.cell? ⟨bw, 1, none⟩ = some (.int .i64 ((r : Nat) : Int)) := fun z => (S9.out z).hw.cell 1
            have wf : ∀ (z : Wb U9) (i : Nat), z.at.frozen? ⟨bw, i, none⟩ = false := fun z i => (S9.out z).hw.free i
            go_wp2_with fail
            refine (QS.is (S9.out z9)).mono ?_
            rintro e w5 ⟨rfl, b5⟩
            have S10 := Lib.hid ((S9.out z9).below b5)
            clear b5
            go_wp2
            go_roundw
            case rel => exact ⟨k + 1, q, c, r, L, (.slice lp ln lc), by go_num, rfl, by omega, by omega, S10.out, hLr, hr0, by omega, hcw.out, HQB.out⟩
            case measure => simp [intOf]; omega
        have n0 : (K == 0) = false := by simpa using k0
        by_cases k1 : K = 1
        · subst k1
          cases L with
          | nil =>
            go_wp2_with fail
            refine (rtake_empty (by simpa using (SU.out z).hl) r).mono ?_
            rintro e w2 ⟨rfl, b2⟩
            have nb2 := Lib.hid (SU.out z).hn
            have s2 := (SU.out z).hl.below b2
            obtain ⟨x2, rfl⟩ := Wb.next (x := z) b2
            go_upto_region 21 with fail
            refine to_cls ?_
            intro U2 hU2 z2
            have S2 := Lib.hid (fun z : Wb U2 => (((SU.out x2).below ((Below.refl _ _).alloc (Nat.le_refl _) _)).below hU2).below z.bel)
            have r_p : ∀ z : Wb U2, Row z.at x2.at.heap.size [(.slice lp ln lc), .int .i64 (r : Int)] 30 := Row.next (Row.new _ [(.slice lp ln lc), .int .i64 (r : Int)] _) hU2
            have r_o2 : ∀ z : Wb U2, Row z.at O [.int .i64 1, .int .i64 X] 32 := Row.next ((r_o x2).old _) hU2
            have T2 := Lib.hid (fun z : Wb U2 => ((s2.below ((Below.refl _ _).alloc (Nat.le_refl _) _)).below hU2).below z.bel)
            have pc := Lib.hid (show x2.at.heap.size ≠ c by have := (SU.out x2).hc.lt; omega)
            obtain ⟨B2, hB2⟩ : ∃ b, b = x2.at.heap.size := ⟨_, rfl⟩
            rw [← hB2] at r_p pc
            simp only [← hB2]
            clear hB2 hU2 s2 b2 o0 o1 w0 w1c wf
            have o1 : ∀ z : Wb U2, z.at.cell? ⟨O, 1, none⟩ = some (.int .i64 X) := fun z => (r_o2 z).cell 1
            go_wp2_with fail
            refine (QS.take_none (S2.out z2)).mono ?_
            rintro e w3 ⟨rfl, rfl⟩
            go_upto_region 24 with fail
            refine to_cls ?_
            intro U3 hU3 z3
            have S3 := Lib.hid (fun z : Wb U3 => (((S2.out z2)).below hU3).below z.bel)
            have r_p3 : ∀ z : Wb U3, Row z.at B2 [(.slice lp ln lc), .int .i64 (r : Int)] 30 := Row.next ((r_p z2)) hU3
            have T3 := Lib.hid (fun z : Wb U3 => (((T2.out z2)).below hU3).below z.bel)
            clear o1 hU3 
            have p0c : ∀ z : Wb U3, z.at.cell? ⟨B2, 0, none⟩ = some ((.slice lp ln lc)) := fun z => (r_p3 z).cell 0
            have p1c : ∀ z : Wb U3, z.at.cell? ⟨B2, 1, none⟩ = some (.int .i64 (r : Int)) := fun z => (r_p3 z).cell 1
            have w0 : ∀ z : Wb U3, z.at.cell? ⟨bw, 0, none⟩ = some ((.slice lp ln lc)) := fun z => (S3.out z).hw.cell 0
            have w1c : ∀ z : Wb U3, z.at.cell? ⟨bw, 1, none⟩ = some (.int .i64 ((r : Nat) : Int)) := fun z => (S3.out z).hw.cell 1
            have wf : ∀ (z : Wb U3) (i : Nat), z.at.frozen? ⟨bw, i, none⟩ = false := fun z i => (S3.out z).hw.free i
            go_upto_region 35 with fail
            refine to_cls ?_
            intro U9 hU9 z9
            have S9 := Lib.hid (fun z : Wb U9 => (QS.below (U := _) (((S3.out z3).set (LR' := []) HQB.out (T3.out z3) nb2.out hbwl.out).room (rr' := r) HQB.out hbwl.out) hU9).below z.bel)
            clear w0 w1c wf p0c p1c hU9
            have w0 : ∀ z : Wb U9, z.at.cell? ⟨bw, 0, none⟩ = some ((.slice lp ln lc)) := fun z => (S9.out z).hw.cell 0
            have w1c : ∀ z : Wb U9, z.at.cell? ⟨bw, 1, none⟩ = some (.int .i64 ((r : Nat) : Int)) := fun z => (S9.out z).hw.cell 1
            have wf : ∀ (z : Wb U9) (i : Nat), z.at.frozen? ⟨bw, i, none⟩ = false := fun z i => (S9.out z).hw.free i
            go_wp2_with fail
            refine (QS.is (S9.out z9)).mono ?_
            rintro e w5 ⟨rfl, b5⟩
            have S10 := Lib.hid ((S9.out z9).below b5)
            clear b5
            go_wp2
            go_roundw
            case rel => exact ⟨k + 1, q, c, r, [], (.slice lp ln lc), by go_num, rfl, by omega, by omega, S10.out, hLr, hr0, by omega, hcw.out, HQB.out⟩
            case measure => simp [intOf]; omega
          | cons y L =>
            go_wp2_with fail
            refine (rtake_cons (SU.out z).hl (by simp at hLr; omega) r).mono ?_
            rintro e w2 ⟨v2, rfl, b2, s2, nb⟩
            obtain ⟨p2, m2, c3, rfl⟩ := s2.form
            have nb2 := Lib.hid (nb bw (SU.out z).hn)
            clear nb
            obtain ⟨x2, rfl⟩ := Wb.next (x := z) b2
            go_upto_region 21 with fail
            refine to_cls ?_
            intro U2 hU2 z2
            have S2 := Lib.hid (fun z : Wb U2 => (((SU.out x2).below ((Below.refl _ _).alloc (Nat.le_refl _) _)).below hU2).below z.bel)
            have r_p : ∀ z : Wb U2, Row z.at x2.at.heap.size [(.slice p2 m2 c3), .int .i64 (r : Int)] 30 := Row.next (Row.new _ [(.slice p2 m2 c3), .int .i64 (r : Int)] _) hU2
            have r_o2 : ∀ z : Wb U2, Row z.at O [.int .i64 1, .int .i64 X] 32 := Row.next ((r_o x2).old _) hU2
            have T2 := Lib.hid (fun z : Wb U2 => ((s2.below ((Below.refl _ _).alloc (Nat.le_refl _) _)).below hU2).below z.bel)
            have pc := Lib.hid (show x2.at.heap.size ≠ c by have := (SU.out x2).hc.lt; omega)
            obtain ⟨B2, hB2⟩ : ∃ b, b = x2.at.heap.size := ⟨_, rfl⟩
            rw [← hB2] at r_p pc
            simp only [← hB2]
            clear hB2 hU2 s2 b2 o0 o1 w0 w1c wf
            have o1 : ∀ z : Wb U2, z.at.cell? ⟨O, 1, none⟩ = some (.int .i64 X) := fun z => (r_o2 z).cell 1
            go_wp2_with fail
            refine (QS.take_some (S2.out z2) hcw.out).mono ?_
            rintro e w3 ⟨rfl, s3, o3⟩
            go_upto_region 24 with fail
            refine to_cls ?_
            intro U3 hU3 z3
            have S3 := Lib.hid (fun z : Wb U3 => (((s3)).below hU3).below z.bel)
            have r_p3 : ∀ z : Wb U3, Row z.at B2 [(.slice p2 m2 c3), .int .i64 (r : Int)] 30 := Row.next ((r_p z2).only o3 pc.out) hU3
            have T3 := Lib.hid (fun z : Wb U3 => (((T2.out z2).only o3 (S2.out z2).hc).below hU3).below z.bel)
            clear o1 hU3 s3 o3
            have p0c : ∀ z : Wb U3, z.at.cell? ⟨B2, 0, none⟩ = some ((.slice p2 m2 c3)) := fun z => (r_p3 z).cell 0
            have p1c : ∀ z : Wb U3, z.at.cell? ⟨B2, 1, none⟩ = some (.int .i64 (r : Int)) := fun z => (r_p3 z).cell 1
            have w0 : ∀ z : Wb U3, z.at.cell? ⟨bw, 0, none⟩ = some ((.slice lp ln lc)) := fun z => (S3.out z).hw.cell 0
            have w1c : ∀ z : Wb U3, z.at.cell? ⟨bw, 1, none⟩ = some (.int .i64 ((r : Nat) : Int)) := fun z => (S3.out z).hw.cell 1
            have wf : ∀ (z : Wb U3) (i : Nat), z.at.frozen? ⟨bw, i, none⟩ = false := fun z i => (S3.out z).hw.free i
            go_upto_region 35 with fail
            refine to_cls ?_
            intro U9 hU9 z9
            have S9 := Lib.hid (fun z : Wb U9 => (QS.below (U := _) (((S3.out z3).set (LR' := L) HQB.out (T3.out z3) nb2.out hbwl.out).room (rr' := r) HQB.out hbwl.out) hU9).below z.bel)
            clear w0 w1c wf p0c p1c hU9
            have w0 : ∀ z : Wb U9, z.at.cell? ⟨bw, 0, none⟩ = some ((.slice p2 m2 c3)) := fun z => (S9.out z).hw.cell 0
            have w1c : ∀ z : Wb U9, z.at.cell? ⟨bw, 1, none⟩ = some (.int .i64 ((r : Nat) : Int)) := fun z => (S9.out z).hw.cell 1
            have wf : ∀ (z : Wb U9) (i : Nat), z.at.frozen? ⟨bw, i, none⟩ = false := fun z i => (S9.out z).hw.free i
            go_wp2_with fail
            refine (QS.is (S9.out z9)).mono ?_
            rintro e w5 ⟨rfl, b5⟩
            have S10 := Lib.hid ((S9.out z9).below b5)
            clear b5
            go_wp2
            go_roundw
            case rel => exact ⟨k + 1, q, c, r, L, (.slice p2 m2 c3), by go_num, rfl, by omega, by omega, S10.out, by simp at hLr; omega, hr0, by omega, hcw.out, HQB.out⟩
            case measure => simp [intOf]; omega
        have n1 : (K == 1) = false := by simpa using k1
        by_cases k2 : K = 2
        · subst k2
          go_wp2_with fail
          go_region_held3 (fun w' => w'.cell? ⟨bw, 0, none⟩ = some (.slice lp ln lc)) (first | exact (SU.out z).hw.cell 0 | exact SD.out.hw.cell 0 | exact SE.out.hw.cell 0)
            (first | (go_at_call 13; refine (QS.drain (U := _) (h := (SU.out z).below (Below.refl _ _).drew) lb.out hcw.out).mono ?_; rintro e w3 ⟨v3, rfl, s3, t3⟩; have SD := Lib.hid s3; have TD := Lib.hid t3; clear s3 t3) | (go_at_call 12; refine (QS.same SD.out TD.out lb.out).mono ?_; rintro e w4 ⟨rfl, b4⟩; have SE := Lib.hid (SD.out.below b4); clear b4))
          go_upto_region 28 with fail
          refine to_cls ?_
          intro U3 hU3 z3
          have S3 := Lib.hid (fun z : Wb U3 => (QS.below (U := _) (SE.out) hU3).below z.bel)
          clear w0 w1c wf o0 o1 hU3
          have w0 : ∀ z : Wb U3, z.at.cell? ⟨bw, 0, none⟩ = some ((.slice lp ln lc)) := fun z => (S3.out z).hw.cell 0
          have w1c : ∀ z : Wb U3, z.at.cell? ⟨bw, 1, none⟩ = some (.int .i64 ((r : Nat) : Int)) := fun z => (S3.out z).hw.cell 1
          have wf : ∀ (z : Wb U3) (i : Nat), z.at.frozen? ⟨bw, i, none⟩ = false := fun z i => (S3.out z).hw.free i
          go_upto_region 35 with fail
          refine to_cls ?_
          intro U9 hU9 z9
          have S9 := Lib.hid (fun z : Wb U9 => (QS.below (U := _) ((S3.out z3).set (LR' := []) (lv' := .slice none 0 0) HQB.out (SlAt.nil _ _) (NB.nil _) hbwl.out) hU9).below z.bel)
          clear w0 w1c wf hU9
          have w0 : ∀ z : Wb U9, z.at.cell? ⟨bw, 0, none⟩ = some (.slice none 0 0) := fun z => (S9.out z).hw.cell 0
          have w1c : ∀ z : Wb U9, z.at.cell? ⟨bw, 1, none⟩ = some (.int .i64 ((r : Nat) : Int)) := fun z => (S9.out z).hw.cell 1
          have wf : ∀ (z : Wb U9) (i : Nat), z.at.frozen? ⟨bw, i, none⟩ = false := fun z i => (S9.out z).hw.free i
          go_wp2_with fail
          refine (QS.is (S9.out z9)).mono ?_
          rintro e w5 ⟨rfl, b5⟩
          have S10 := Lib.hid ((S9.out z9).below b5)
          clear b5
          go_wp2
          go_roundw
          case rel => exact ⟨k + 1, q, c, r, [], .slice none 0 0, by go_num, rfl, by omega, by omega, S10.out, by simp, hr0, by omega, hcw.out, HQB.out⟩
          case measure => simp [intOf]; omega
        have n2 : (K == 2) = false := by simpa using k2
        by_cases k3 : K = 3
        · subst k3
          by_cases xneg : X < 0
          · have d3 : decide (X < 0) = true := by simpa using xneg
            go_wp2
            go_roundw
            case rel => exact ⟨k + 1, q, c, r, L, (.slice lp ln lc), by go_num, rfl, by omega, by omega, SU.out z, hLr, hr0, by omega, hcw.out, HQB.out⟩
            case measure => simp [intOf]; omega
          by_cases x100 : 100 < X
          · have d3 : decide (X < 0) = false := by simpa using xneg
            have d4 : decide (100 < X) = true := by simpa using x100
            go_wp2
            go_roundw
            case rel => exact ⟨k + 1, q, c, r, L, (.slice lp ln lc), by go_num, rfl, by omega, by omega, SU.out z, hLr, hr0, by omega, hcw.out, HQB.out⟩
            case measure => simp [intOf]; omega
          obtain ⟨m, rfl⟩ : ∃ m : Nat, X = m := ⟨X.toNat, by omega⟩
          have d3 : decide ((m : Int) < 0) = false := by simp
          have d4 : decide (100 < (m : Int)) = false := by simpa using x100
          have m100 : m ≤ 100 := by omega
          clear xneg x100
          go_wp2_with fail
          refine ((SU.out z).grown m hLr hr0 (by omega) hcw.out).mono ?_
          rintro e w3 ⟨q2, c2, rfl, s3, s4, hc2, hq2, o3⟩
          have S3 := Lib.hid s3
          have S4 := Lib.hid s4
          have HC2 := Lib.hid hc2
          have HQ2 := Lib.hid hq2
          have r_o3 := (r_o z).only o3 (fun e => co.out e.symm)
          clear s3 s4 hc2 hq2 o3
          go_wp2_with fail
          refine (QS.len S3.out).mono ?_
          rintro e w4 ⟨rfl, rfl⟩
          go_upto_region 34 with fail
          refine to_cls ?_
          intro U3 hU3 z3
          have S5 := Lib.hid (fun z : Wb U3 => (S4.out.below hU3).below z.bel)
          have r_o4 : ∀ z : Wb U3, Row z.at O [.int .i64 3, .int .i64 (m : Int)] 32 := Row.next r_o3 hU3
          clear w0 w1c wf o0 o1 hU3 r_o3
          have w0 : ∀ z : Wb U3, z.at.cell? ⟨bw, 0, none⟩ = some ((.slice lp ln lc)) := fun z => (S5.out z).hw.cell 0
          have w1c : ∀ z : Wb U3, z.at.cell? ⟨bw, 1, none⟩ = some (.int .i64 ((r : Nat) : Int)) := fun z => (S5.out z).hw.cell 1
          have wf : ∀ (z : Wb U3) (i : Nat), z.at.frozen? ⟨bw, i, none⟩ = false := fun z i => (S5.out z).hw.free i
          have o1 : ∀ z : Wb U3, z.at.cell? ⟨O, 1, none⟩ = some (.int .i64 (m : Int)) := fun z => (r_o4 z).cell 1
          have W3 : wrap64 ((r : Int) + (m : Int)) = ((r + m : Nat) : Int) := by rw [wrap64_small _ (by omega) (by omega)]; omega
          go_region
          go_upto_region 35 with fail
          refine to_cls ?_
          intro U9 hU9 z9
          have S9 := Lib.hid (fun z : Wb U9 => (QS.below (U := _) (((S5.out z3).below (Below.refl _ _).drew).room (rr' := r + m) (by have := HQ2.out; omega) hbwl.out) hU9).below z.bel)
          clear w0 w1c wf o1 W3 hU9
          have w0 : ∀ z : Wb U9, z.at.cell? ⟨bw, 0, none⟩ = some ((.slice lp ln lc)) := fun z => (S9.out z).hw.cell 0
          have w1c : ∀ z : Wb U9, z.at.cell? ⟨bw, 1, none⟩ = some (.int .i64 (((r + m) : Nat) : Int)) := fun z => (S9.out z).hw.cell 1
          have wf : ∀ (z : Wb U9) (i : Nat), z.at.frozen? ⟨bw, i, none⟩ = false := fun z i => (S9.out z).hw.free i
          go_wp2_with fail
          refine (QS.is (S9.out z9)).mono ?_
          rintro e w5 ⟨rfl, b5⟩
          have S10 := Lib.hid ((S9.out z9).below b5)
          clear b5
          go_wp2
          go_roundw
          case rel => exact ⟨k + 1, q2, c2, (r + m), L, (.slice lp ln lc), by go_num, rfl, by omega, by omega, S10.out, by omega, by omega, by omega, HC2.out, by have := HQ2.out; omega⟩
          case measure => simp [intOf]; omega
        have n3 : (K == 3) = false := by simpa using k3
        have SZ := Lib.hid (SU.out z)
        go_upto_region 35 with fail
        refine to_cls ?_
        intro U9 hU9 z9
        have S9 := Lib.hid (fun z : Wb U9 => (QS.below (U := _) (SZ.out) hU9).below z.bel)
        clear w0 w1c wf hU9
        have w0 : ∀ z : Wb U9, z.at.cell? ⟨bw, 0, none⟩ = some ((.slice lp ln lc)) := fun z => (S9.out z).hw.cell 0
        have w1c : ∀ z : Wb U9, z.at.cell? ⟨bw, 1, none⟩ = some (.int .i64 ((r : Nat) : Int)) := fun z => (S9.out z).hw.cell 1
        have wf : ∀ (z : Wb U9) (i : Nat), z.at.frozen? ⟨bw, i, none⟩ = false := fun z i => (S9.out z).hw.free i
        go_wp2_with fail
        refine (QS.is (S9.out z9)).mono ?_
        rintro e w5 ⟨rfl, b5⟩
        have S10 := Lib.hid ((S9.out z9).below b5)
        clear b5
        go_wp2
        go_roundw
        case rel => exact ⟨k + 1, q, c, r, L, (.slice lp ln lc), by go_num, rfl, by omega, by omega, S10.out, hLr, hr0, by omega, hcw.out, HQB.out⟩
        case measure => simp [intOf]; omega
      · obtain rfl : k = 80 := by omega
        have e1 : decide (80 < (n : Int)) = true := by simp; omega
        go_wp2_with fail
        go_region_held3 (fun w' => w'.cell? ⟨bw, 0, none⟩ = some (.slice lp ln lc)) (first | exact S.out.hw.cell 0 | exact SD.out.hw.cell 0 | exact SE.out.hw.cell 0)
          (first | (go_at_call 13; refine (QS.drain (U := _) (h := S.out.below (Below.refl _ _).drew) lb.out hcw.out).mono ?_; rintro e w3 ⟨v3, rfl, s3, t3⟩; have SD := Lib.hid s3; have TD := Lib.hid t3; clear s3 t3) | (go_at_call 12; refine (QS.same SD.out TD.out lb.out).mono ?_; rintro e w4 ⟨rfl, b4⟩; have SE := Lib.hid (SD.out.below b4); clear b4) | (go_at_call 15; refine (QS.len SE.out).mono ?_; rintro e w5 ⟨rfl, rfl⟩))
        go_wp2
        go_ret
        exact ⟨by first | rfl | simp, SE.out.hb⟩
    · obtain rfl : n = k := by omega
      go_wp2_with fail
      go_region_held3 (fun w' => w'.cell? ⟨bw, 0, none⟩ = some (.slice lp ln lc)) (first | exact S.out.hw.cell 0 | exact SD.out.hw.cell 0 | exact SE.out.hw.cell 0)
        (first | (go_at_call 13; refine (QS.drain (U := _) (h := S.out.below (Below.refl _ _).drew) lb.out hcw.out).mono ?_; rintro e w3 ⟨v3, rfl, s3, t3⟩; have SD := Lib.hid s3; have TD := Lib.hid t3; clear s3 t3) | (go_at_call 12; refine (QS.same SD.out TD.out lb.out).mono ?_; rintro e w4 ⟨rfl, b4⟩; have SE := Lib.hid (SD.out.below b4); clear b4) | (go_at_call 15; refine (QS.len SE.out).mono ?_; rintro e w5 ⟨rfl, rfl⟩))
      go_wp2
      go_ret
      exact ⟨by first | rfl | simp, SE.out.hb⟩
end Go.Proofs.Ytjmkkidlaebpmab
