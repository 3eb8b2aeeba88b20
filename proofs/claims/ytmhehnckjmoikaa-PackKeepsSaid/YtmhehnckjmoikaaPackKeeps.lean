/- The statement PackKeeps holds for every input: what is put is got, whatever else was put, and nothing else is changed, and the chapter's examples hold. No condition. -/
import Derived.Test.YtmhehnckjmoikaaRows
import Derived.Test.YtmhehnckjmoikaaPackAny
import Derived.Test.YtmhehnckjmoikaaBegun1
import Derived.WalkKit
import Derived.ProofKit
import Derived.OpenShut
import Derived.ChangeOld
import Derived.Carry
import Derived.Lib.SmallJoins
namespace Go.Proofs.Ytmhehnckjmoikaa.packKeeps
open Go.ChangeShapes Go.WideShapes Go.ChangeAt Go.RowKit Go.Joins
open Go.Proofs.Ytmhehnckjmoikaa.Pk
set_option linter.unusedVariables false
set_option linter.unusedSimpArgs false

theorem own : ownKnob Try.prog.godebug = none := by kernel_rfl
theorem laidOut : laidOutB Try.prog = true := by kernel_rfl

theorem put_bad (x a n v : Int) (w : World) (h0 : 0 ≤ x) (h1 : x ≤ 4294967295) (hv0 : 0 ≤ v) (hv1 : v ≤ 4294967295) (hE : putE a n v ≠ 0) :
    Calls Try.prog 15 #[.int .u32 x, .int .i64 a, .int .i64 n, .int .u32 v] w fun e w' => e = .returned (.tuple #[.int .u32 0, .int .i64 (putE a n v)]) ∧ Drw w w' := by
  have := put_any x a n v w h0 h1 hv0 hv1
  rw [putV_bad hE] at this
  exact this

/-- The boxes of the two pieces. -/
structure Boxes (W : World) (b : Nat) (a n v a2 n2 v2 : Int) : Prop where
  p0 : W.cell? ⟨b, 0, none⟩ = some (.int .i64 a)
  p1 : W.cell? ⟨b, 1, none⟩ = some (.int .i64 n)
  p2 : W.cell? ⟨b, 2, none⟩ = some (.int .u32 v)
  q0 : W.cell? ⟨b + 1, 0, none⟩ = some (.int .i64 a2)
  q1 : W.cell? ⟨b + 1, 1, none⟩ = some (.int .i64 n2)
  q2 : W.cell? ⟨b + 1, 2, none⟩ = some (.int .u32 v2)
theorem Boxes.drw {W W' : World} {b : Nat} {a n v a2 n2 v2 : Int} (h : Boxes W b a n v a2 n2 v2) (d : Drw W W') : Boxes W' b a n v a2 n2 v2 := by
  obtain ⟨m, rfl⟩ := d; exact ⟨h.p0, h.p1, h.p2, h.q0, h.q1, h.q2⟩
theorem Boxes.at (w w1 : World) (a n v a2 n2 v2 : Int) (t : TypeId)
    (hb : Below ((w.alloc (.cells #[.int .i64 a, .int .i64 n, .int .u32 v] t)).alloc (.cells #[.int .i64 a2, .int .i64 n2, .int .u32 v2] t)).heap.size ((w.alloc (.cells #[.int .i64 a, .int .i64 n, .int .u32 v] t)).alloc (.cells #[.int .i64 a2, .int .i64 n2, .int .u32 v2] t)) w1) :
    Boxes w1 w.heap.size a n v a2 n2 v2 := by
  have h : ∀ (b o : Nat), b < w.heap.size + 2 → w1.cell? ⟨b, o, none⟩ = ((w.alloc (.cells #[.int .i64 a, .int .i64 n, .int .u32 v] t)).alloc (.cells #[.int .i64 a2, .int .i64 n2, .int .u32 v2] t)).cell? ⟨b, o, none⟩ :=
    fun b o hlt => hb.cell (p := ⟨b, o, none⟩) (by simpa using hlt)
  have past : ∀ o, ((w.alloc (.cells #[.int .i64 a, .int .i64 n, .int .u32 v] t)).alloc (.cells #[.int .i64 a2, .int .i64 n2, .int .u32 v2] t)).cell? ⟨w.heap.size, o, none⟩ = #[Value.int .i64 a, .int .i64 n, .int .u32 v][o]? := by
    intro o
    rw [World.cell?_alloc_past _ _ _ (by simp), World.cell?_alloc_at _ _ _ _ rfl]
  have last : ∀ o, ((w.alloc (.cells #[.int .i64 a, .int .i64 n, .int .u32 v] t)).alloc (.cells #[.int .i64 a2, .int .i64 n2, .int .u32 v2] t)).cell? ⟨w.heap.size + 1, o, none⟩ = #[Value.int .i64 a2, .int .i64 n2, .int .u32 v2][o]? := by
    intro o
    rw [World.cell?_alloc_at _ _ _ _ (by simp)]
  exact ⟨by rw [h _ _ (by omega), past]; rfl, by rw [h _ _ (by omega), past]; rfl, by rw [h _ _ (by omega), past]; rfl, by rw [h _ _ (by omega), last]; rfl, by rw [h _ _ (by omega), last]; rfl, by rw [h _ _ (by omega), last]; rfl⟩

set_option maxHeartbeats 600000 in
theorem walk_bad (x a n v a2 n2 v2 : Int) (w : World) (h0 : 0 ≤ x) (h1 : x ≤ 4294967295) (hv0 : 0 ≤ v) (hv1 : v ≤ 4294967295) (hE : putE a n v ≠ 0) :
    Calls Try.prog 5 #[.int .u32 x, .agg #[.int .i64 a, .int .i64 n, .int .u32 v], .agg #[.int .i64 a2, .int .i64 n2, .int .u32 v2]] w fun e w' => e = .returned (.bool true) ∧ Below w.heap.size w w' := by
  have hne : (putE a n v != 0) = true := by rw [bne_iff_ne]; exact hE
  have HE := Lib.hid hE
  clear hE
  go_enter Try.func5, Try.ntmps5
  go_wp2_with fail
  refine (begun_any _).mono ?_
  rintro e w1 ⟨rfl, hb1⟩
  obtain ⟨p0, p1, p2, q0, q1, q2⟩ := Boxes.at w w1 a n v a2 n2 v2 _ hb1
  have HB1 := Lib.hid (below_step (below_step (below_new w _) (below_new _ _)) hb1)
  clear hb1
  go_wp2_with fail
  refine (put_bad _ _ _ _ _ h0 h1 hv0 hv1 HE.out).mono ?_
  rintro e w2 ⟨rfl, hd2⟩
  have HB2 := Lib.hid (below_step HB1.out hd2.new)
  clear hd2
  go_wp2_with fail
  go_ret
  exact ⟨rfl, HB2.out⟩

/-- Each of the three regions' calls, as the law's walk meets them: y is the word with the piece put in, g what stood there. -/
structure Keeps (x a n v y g : Int) : Prop where
  put : ∀ W, Calls Try.prog 15 #[.int .u32 x, .int .i64 a, .int .i64 n, .int .u32 v] W fun e w' => e = .returned (.tuple #[.int .u32 y, .int .i64 0]) ∧ Drw W w'
  got : ∀ W, Calls Try.prog 9 #[.int .u32 y, .int .i64 a, .int .i64 n] W fun e w' => e = .returned (.int .u32 v) ∧ Drw W w'
  old : ∀ W, Calls Try.prog 9 #[.int .u32 x, .int .i64 a, .int .i64 n] W fun e w' => e = .returned (.int .u32 g) ∧ Drw W w'
  back : ∀ W, Calls Try.prog 15 #[.int .u32 y, .int .i64 a, .int .i64 n, .int .u32 g] W fun e w' => e = .returned (.tuple #[.int .u32 x, .int .i64 0]) ∧ Drw W w'

theorem keeps_of (x a n v : Int) (h0 : 0 ≤ x) (h1 : x ≤ 4294967295) (hv0 : 0 ≤ v) (hv1 : v ≤ 4294967295) (hp : pieceB a n = true) (hf : fitB v n = true) : Keeps x a n v (putI x a n v) (getI x a n) := by
  have b0 := putI_lo h0 hv0 hp
  have b1 := putI_hi h0 h1 hv0 hp hf
  refine ⟨fun W => put_yes x a n v W h0 h1 hp hv0 hv1 hf, fun W => ?_, fun W => get_any x a n W h0 h1, fun W => ?_⟩
  · have := get_any (putI x a n v) a n W b0 b1
    rw [getI_same h0 hv0 hp hf] at this
    exact this
  · have := put_yes (putI x a n v) a n (getI x a n) W b0 b1 hp (getI_lo h0) (getI_hi h0 h1) (fit_get hp)
    rw [put_back h0 hv0 hp hf] at this
    exact this

set_option maxHeartbeats 1000000 in
theorem walk_out (x a n v a2 n2 v2 y g : Int) (w : World) (HK : Keeps x a n v y g) (hq : pieceB a2 n2 = false) :
    Calls Try.prog 5 #[.int .u32 x, .agg #[.int .i64 a, .int .i64 n, .int .u32 v], .agg #[.int .i64 a2, .int .i64 n2, .int .u32 v2]] w fun e w' => e = .returned (.bool true) ∧ Below w.heap.size w w' := by
  have HQ := Lib.hid hq
  clear hq
  go_enter Try.func5, Try.ntmps5
  go_wp2_with fail
  refine (begun_any _).mono ?_
  rintro e w1 ⟨rfl, hb1⟩
  have hx := Boxes.at w w1 a n v a2 n2 v2 _ hb1
  have HX := Lib.hid hx
  obtain ⟨p0, p1, p2, q0, q1, q2⟩ := hx
  have HB1 := Lib.hid (below_step (below_step (below_new w _) (below_new _ _)) hb1)
  clear hb1
  go_wp2_with fail
  refine (HK.put _).mono ?_
  rintro e w2 ⟨rfl, hd2⟩
  have HB2 := Lib.hid (below_step HB1.out hd2.new)
  have HX2 := Lib.hid (HX.out.drw hd2)
  clear hd2 p0 p1 p2 q0 q1 q2
  obtain ⟨p0, p1, p2, q0, q1, q2⟩ := HX2.out
  go_wp2_with fail
  go_quiet ((go_at_call 9; exact Calls.quiet_of (HK.got _)))
  have hd3 : Drw w2 (w2.drewN nq) := ⟨nq, rfl⟩
  generalize w2.drewN nq = w3 at *
  have HB3 := Lib.hid (below_step HB2.out hd3.new)
  have HX3 := Lib.hid (HX2.out.drw hd3)
  clear hd3 p0 p1 p2 q0 q1 q2
  obtain ⟨p0, p1, p2, q0, q1, q2⟩ := HX3.out
  go_wp2_with fail
  go_quiet ((go_at_call 17; exact quiet_eq (piece_no _ _ _ HQ.out)))
  have hd4 : Drw w3 (w3.drewN nq) := ⟨nq, rfl⟩
  generalize w3.drewN nq = w4 at *
  have HB4 := Lib.hid (below_step HB3.out hd4.new)
  have HX4 := Lib.hid (HX3.out.drw hd4)
  clear hd4 p0 p1 p2 q0 q1 q2
  obtain ⟨p0, p1, p2, q0, q1, q2⟩ := HX4.out
  go_wp2_with fail
  go_quiet ((first | (go_at_call 9; exact Calls.quiet_of (HK.old _)) | (go_at_call 15; exact Calls.quiet_of (HK.back _))))
  have hd5 : Drw w4 (w4.drewN nq) := ⟨nq, rfl⟩
  generalize w4.drewN nq = w5 at *
  have HB5 := Lib.hid (below_step HB4.out hd5.new)
  clear hd5 p0 p1 p2 q0 q1 q2
  go_wp2_with fail
  go_ret
  exact ⟨rfl, HB5.out⟩

set_option maxHeartbeats 1000000 in
theorem walk_over (x a n v a2 n2 v2 y g : Int) (w : World) (HK : Keeps x a n v y g) (hq : pieceB a2 n2 = true) (ha0 : 0 ≤ a) (ha1 : a ≤ 32) (hn0 : 0 ≤ n) (hn1 : n ≤ 32) (h1 : a2 < a + n) (h2 : a < a2 + n2) :
    Calls Try.prog 5 #[.int .u32 x, .agg #[.int .i64 a, .int .i64 n, .int .u32 v], .agg #[.int .i64 a2, .int .i64 n2, .int .u32 v2]] w fun e w' => e = .returned (.bool true) ∧ Below w.heap.size w w' := by
  obtain ⟨t1, t2, t3, t4⟩ := pieceB_yes hq
  have HQ := Lib.hid hq
  have d1 : ¬ a + n ≤ a2 := by omega
  have d2 : ¬ a2 + n2 ≤ a := by omega
  clear hq
  go_enter Try.func5, Try.ntmps5
  go_wp2_with fail
  refine (begun_any _).mono ?_
  rintro e w1 ⟨rfl, hb1⟩
  have hx := Boxes.at w w1 a n v a2 n2 v2 _ hb1
  have HX := Lib.hid hx
  obtain ⟨p0, p1, p2, q0, q1, q2⟩ := hx
  have HB1 := Lib.hid (below_step (below_step (below_new w _) (below_new _ _)) hb1)
  clear hb1
  go_wp2_with fail
  refine (HK.put _).mono ?_
  rintro e w2 ⟨rfl, hd2⟩
  have HB2 := Lib.hid (below_step HB1.out hd2.new)
  have HX2 := Lib.hid (HX.out.drw hd2)
  clear hd2 p0 p1 p2 q0 q1 q2
  obtain ⟨p0, p1, p2, q0, q1, q2⟩ := HX2.out
  go_wp2_with fail
  go_quiet ((go_at_call 9; exact Calls.quiet_of (HK.got _)))
  have hd3 : Drw w2 (w2.drewN nq) := ⟨nq, rfl⟩
  generalize w2.drewN nq = w3 at *
  have HB3 := Lib.hid (below_step HB2.out hd3.new)
  have HX3 := Lib.hid (HX2.out.drw hd3)
  clear hd3 p0 p1 p2 q0 q1 q2
  obtain ⟨p0, p1, p2, q0, q1, q2⟩ := HX3.out
  go_wp2_with fail
  have hw1 : IntKind.i64.wrap (a + n) = a + n := by rw [IntKind.wrap_i64]; omega
  have hw2 : IntKind.i64.wrap (a2 + n2) = a2 + n2 := by rw [IntKind.wrap_i64]; omega
  have hb1 : decide (a + n ≤ a2) = false := decide_eq_false (by omega)
  have hb2 : decide (a2 + n2 ≤ a) = false := decide_eq_false (by omega)
  go_quiet ((go_at_call 17; exact quiet_eq (piece_yes _ _ _ HQ.out)))
  clear hw1 hw2 hb1 hb2
  have hd4 : Drw w3 (w3.drewN nq) := ⟨nq, rfl⟩
  generalize w3.drewN nq = w4 at *
  have HB4 := Lib.hid (below_step HB3.out hd4.new)
  have HX4 := Lib.hid (HX3.out.drw hd4)
  clear hd4 p0 p1 p2 q0 q1 q2
  obtain ⟨p0, p1, p2, q0, q1, q2⟩ := HX4.out
  go_wp2_with fail
  go_quiet ((first | (go_at_call 9; exact Calls.quiet_of (HK.old _)) | (go_at_call 15; exact Calls.quiet_of (HK.back _))))
  have hd5 : Drw w4 (w4.drewN nq) := ⟨nq, rfl⟩
  generalize w4.drewN nq = w5 at *
  have HB5 := Lib.hid (below_step HB4.out hd5.new)
  clear hd5 p0 p1 p2 q0 q1 q2
  go_wp2_with fail
  go_ret
  exact ⟨rfl, HB5.out⟩

set_option maxHeartbeats 1000000 in
theorem walk_behind (x a n v a2 n2 v2 y g g2 : Int) (w : World) (HK : Keeps x a n v y g) (hq : pieceB a2 n2 = true) (ha0 : 0 ≤ a) (ha1 : a ≤ 32) (hn0 : 0 ≤ n) (hn1 : n ≤ 32) (hy : Hid (∀ W, Calls Try.prog 9 #[.int .u32 y, .int .i64 a2, .int .i64 n2] W fun e w' => e = .returned (.int .u32 g2) ∧ Drw W w')) (hxx : Hid (∀ W, Calls Try.prog 9 #[.int .u32 x, .int .i64 a2, .int .i64 n2] W fun e w' => e = .returned (.int .u32 g2) ∧ Drw W w')) (h1 : a + n ≤ a2) :
    Calls Try.prog 5 #[.int .u32 x, .agg #[.int .i64 a, .int .i64 n, .int .u32 v], .agg #[.int .i64 a2, .int .i64 n2, .int .u32 v2]] w fun e w' => e = .returned (.bool true) ∧ Below w.heap.size w w' := by
  obtain ⟨t1, t2, t3, t4⟩ := pieceB_yes hq
  have HQ := Lib.hid hq
  clear hq
  go_enter Try.func5, Try.ntmps5
  go_wp2_with fail
  refine (begun_any _).mono ?_
  rintro e w1 ⟨rfl, hb1⟩
  have hx := Boxes.at w w1 a n v a2 n2 v2 _ hb1
  have HX := Lib.hid hx
  obtain ⟨p0, p1, p2, q0, q1, q2⟩ := hx
  have HB1 := Lib.hid (below_step (below_step (below_new w _) (below_new _ _)) hb1)
  clear hb1
  go_wp2_with fail
  refine (HK.put _).mono ?_
  rintro e w2 ⟨rfl, hd2⟩
  have HB2 := Lib.hid (below_step HB1.out hd2.new)
  have HX2 := Lib.hid (HX.out.drw hd2)
  clear hd2 p0 p1 p2 q0 q1 q2
  obtain ⟨p0, p1, p2, q0, q1, q2⟩ := HX2.out
  go_wp2_with fail
  go_quiet ((go_at_call 9; exact Calls.quiet_of (HK.got _)))
  have hd3 : Drw w2 (w2.drewN nq) := ⟨nq, rfl⟩
  generalize w2.drewN nq = w3 at *
  have HB3 := Lib.hid (below_step HB2.out hd3.new)
  have HX3 := Lib.hid (HX2.out.drw hd3)
  clear hd3 p0 p1 p2 q0 q1 q2
  obtain ⟨p0, p1, p2, q0, q1, q2⟩ := HX3.out
  go_wp2_with fail
  go_quiet ((first | (go_at_call 17; exact quiet_eq (piece_yes _ _ _ HQ.out)) | (go_at_call 9; with_reducible exact Calls.quiet_of (hy.out _)) | (go_at_call 9; with_reducible exact Calls.quiet_of (hxx.out _))))
  have hd4 : Drw w3 (w3.drewN nq) := ⟨nq, rfl⟩
  generalize w3.drewN nq = w4 at *
  have HB4 := Lib.hid (below_step HB3.out hd4.new)
  have HX4 := Lib.hid (HX3.out.drw hd4)
  clear hd4 p0 p1 p2 q0 q1 q2
  obtain ⟨p0, p1, p2, q0, q1, q2⟩ := HX4.out
  go_wp2_with fail
  go_quiet ((first | (go_at_call 9; exact Calls.quiet_of (HK.old _)) | (go_at_call 15; exact Calls.quiet_of (HK.back _))))
  have hd5 : Drw w4 (w4.drewN nq) := ⟨nq, rfl⟩
  generalize w4.drewN nq = w5 at *
  have HB5 := Lib.hid (below_step HB4.out hd5.new)
  clear hd5 p0 p1 p2 q0 q1 q2
  go_wp2_with fail
  go_ret
  exact ⟨rfl, HB5.out⟩

set_option maxHeartbeats 1000000 in
theorem walk_ahead (x a n v a2 n2 v2 y g g2 : Int) (w : World) (HK : Keeps x a n v y g) (hq : pieceB a2 n2 = true) (ha0 : 0 ≤ a) (ha1 : a ≤ 32) (hn0 : 0 ≤ n) (hn1 : n ≤ 32) (hy : Hid (∀ W, Calls Try.prog 9 #[.int .u32 y, .int .i64 a2, .int .i64 n2] W fun e w' => e = .returned (.int .u32 g2) ∧ Drw W w')) (hxx : Hid (∀ W, Calls Try.prog 9 #[.int .u32 x, .int .i64 a2, .int .i64 n2] W fun e w' => e = .returned (.int .u32 g2) ∧ Drw W w')) (h1 : ¬ a + n ≤ a2) (h2 : a2 + n2 ≤ a) :
    Calls Try.prog 5 #[.int .u32 x, .agg #[.int .i64 a, .int .i64 n, .int .u32 v], .agg #[.int .i64 a2, .int .i64 n2, .int .u32 v2]] w fun e w' => e = .returned (.bool true) ∧ Below w.heap.size w w' := by
  obtain ⟨t1, t2, t3, t4⟩ := pieceB_yes hq
  have HQ := Lib.hid hq
  clear hq
  go_enter Try.func5, Try.ntmps5
  go_wp2_with fail
  refine (begun_any _).mono ?_
  rintro e w1 ⟨rfl, hb1⟩
  have hx := Boxes.at w w1 a n v a2 n2 v2 _ hb1
  have HX := Lib.hid hx
  obtain ⟨p0, p1, p2, q0, q1, q2⟩ := hx
  have HB1 := Lib.hid (below_step (below_step (below_new w _) (below_new _ _)) hb1)
  clear hb1
  go_wp2_with fail
  refine (HK.put _).mono ?_
  rintro e w2 ⟨rfl, hd2⟩
  have HB2 := Lib.hid (below_step HB1.out hd2.new)
  have HX2 := Lib.hid (HX.out.drw hd2)
  clear hd2 p0 p1 p2 q0 q1 q2
  obtain ⟨p0, p1, p2, q0, q1, q2⟩ := HX2.out
  go_wp2_with fail
  go_quiet ((go_at_call 9; exact Calls.quiet_of (HK.got _)))
  have hd3 : Drw w2 (w2.drewN nq) := ⟨nq, rfl⟩
  generalize w2.drewN nq = w3 at *
  have HB3 := Lib.hid (below_step HB2.out hd3.new)
  have HX3 := Lib.hid (HX2.out.drw hd3)
  clear hd3 p0 p1 p2 q0 q1 q2
  obtain ⟨p0, p1, p2, q0, q1, q2⟩ := HX3.out
  go_wp2_with fail
  have hw1 : IntKind.i64.wrap (a + n) = a + n := by rw [IntKind.wrap_i64]; omega
  have hw2 : IntKind.i64.wrap (a2 + n2) = a2 + n2 := by rw [IntKind.wrap_i64]; omega
  have hb1 : decide (a + n ≤ a2) = false := decide_eq_false (by omega)
  have hb2 : decide (a2 + n2 ≤ a) = true := decide_eq_true (by omega)
  go_quiet ((first | (go_at_call 17; exact quiet_eq (piece_yes _ _ _ HQ.out)) | (go_at_call 9; with_reducible exact Calls.quiet_of (hy.out _)) | (go_at_call 9; with_reducible exact Calls.quiet_of (hxx.out _))))
  clear hw1 hw2 hb1 hb2
  have hd4 : Drw w3 (w3.drewN nq) := ⟨nq, rfl⟩
  generalize w3.drewN nq = w4 at *
  have HB4 := Lib.hid (below_step HB3.out hd4.new)
  have HX4 := Lib.hid (HX3.out.drw hd4)
  clear hd4 p0 p1 p2 q0 q1 q2
  obtain ⟨p0, p1, p2, q0, q1, q2⟩ := HX4.out
  go_wp2_with fail
  go_quiet ((first | (go_at_call 9; exact Calls.quiet_of (HK.old _)) | (go_at_call 15; exact Calls.quiet_of (HK.back _))))
  have hd5 : Drw w4 (w4.drewN nq) := ⟨nq, rfl⟩
  generalize w4.drewN nq = w5 at *
  have HB5 := Lib.hid (below_step HB4.out hd5.new)
  clear hd5 p0 p1 p2 q0 q1 q2
  go_wp2_with fail
  go_ret
  exact ⟨rfl, HB5.out⟩

theorem walk (a0 a10 a11 a12 a20 a21 a22 : Int) (w : World) (w0 : (Lit.int .u32 a0).wf = true) (w10 : (Lit.int .i64 a10).wf = true) (w11 : (Lit.int .i64 a11).wf = true) (w12 : (Lit.int .u32 a12).wf = true) (w20 : (Lit.int .i64 a20).wf = true) (w21 : (Lit.int .i64 a21).wf = true) (w22 : (Lit.int .u32 a22).wf = true) :
    Calls Try.prog 5 #[.int .u32 a0, .agg #[.int .i64 a10, .int .i64 a11, .int .u32 a12], .agg #[.int .i64 a20, .int .i64 a21, .int .u32 a22]] w fun e w' => e = .returned (.bool true) ∧ Below w.heap.size w w' := by
  obtain ⟨h0, h1⟩ := bounds_u32 w0
  obtain ⟨h2, h3⟩ := bounds_u32 w12
  by_cases hE : putE a10 a11 a12 = 0
  · obtain ⟨hp, hf⟩ := putE_zero hE
    have HK := keeps_of a0 a10 a11 a12 h0 h1 h2 h3 hp hf
    obtain ⟨s1, s2, s3, s4⟩ := pieceB_yes hp
    cases hq : pieceB a20 a21
    · exact walk_out _ _ _ _ _ _ _ _ _ w HK hq
    · have hg := fun hd => getI_put h0 h1 h2 hp hf a20 a21 hq hd
      have b0 := putI_lo h0 h2 hp
      have b1 := putI_hi h0 h1 h2 hp hf
      have hx : ∀ W, Calls Try.prog 9 #[.int .u32 a0, .int .i64 a20, .int .i64 a21] W fun e w' => e = .returned (.int .u32 (getI a0 a20 a21)) ∧ Drw W w' := fun W => get_any a0 a20 a21 W h0 h1
      have hy : (a10 + a11 ≤ a20 ∨ a20 + a21 ≤ a10) → ∀ W, Calls Try.prog 9 #[.int .u32 (putI a0 a10 a11 a12), .int .i64 a20, .int .i64 a21] W fun e w' => e = .returned (.int .u32 (getI a0 a20 a21)) ∧ Drw W w' := by
        intro hd W
        rw [← hg hd]
        exact get_any _ a20 a21 W b0 b1
      by_cases c1 : a10 + a11 ≤ a20
      · exact walk_behind _ _ _ _ _ _ _ _ _ _ w HK hq (by omega) (by omega) (by omega) (by omega) (hy (.inl c1)) hx c1
      · by_cases c2 : a20 + a21 ≤ a10
        · exact walk_ahead _ _ _ _ _ _ _ _ _ _ w HK hq (by omega) (by omega) (by omega) (by omega) (hy (.inr c2)) hx c1 c2
        · exact walk_over _ _ _ _ _ _ _ _ _ w HK hq (by omega) (by omega) (by omega) (by omega) (by omega) (by omega)
  · exact walk_bad a0 a10 a11 a12 a20 a21 a22 w h0 h1 h2 h3 hE

/-! ### The row -/
set_option maxRecDepth 100000 in
theorem lifted (os : Os) (started : os.Started) (H : Type) (enc : TypeId × Value → H) :
    ReturnsInHanded {} Try.checked os 5 .any (Rows.packKeepsSpec.pre6 enc Try.prog Try.f5 Rows.packKeepsRow.domain false) (Rows.packKeepsSpec.post enc Try.prog Try.f5 false true false false) := by
  refine returnsInHanded_of_change (C := Try.checked) own started (by kernel_rfl) Try.func5
    (ChangeSpec.witness6 (enc := enc) (C := Try.checked) false ⟨#[], #[.int .u32 0, .agg #[.int .i64 0, .int .i64 0, .int .u32 0], .agg #[.int .i64 0, .int .i64 0, .int .u32 0]], []⟩ 8 (by kernel_rfl) (by kernel_rfl) (by kernel_rfl) (by kernel_rfl)) ?_
  intro W base args ds gs before hval0 hW hcnd _
  have hval : ∀ (j : Nat) t v, Try.f5.params[j]? = some t → args[j]? = some v → Value.okWide Try.prog W .any base t v := hval0
  have hW' := hW
  obtain ⟨p, q, hA0, hV, rfl, hfz, hnd⟩ := hW
  have hA : DataW.TrodAll enc Try.prog W 0 (fun _ => true) true Try.f5.params.toList args.toList ds p := hA0
  rw [Try.params5] at hA hval
  obtain ⟨v0, vs0, d0, ds0, p0, q0, hargs, rfl, rfl, h0, r0⟩ := trodAll_cons hA
  obtain ⟨v1, vs1, d1, ds1, p1, q1, rfl, rfl, rfl, h1, r1⟩ := trodAll_cons r0
  obtain ⟨v2, vs2, d2, ds2, p2, q2, rfl, rfl, rfl, h2, r2⟩ := trodAll_cons r1
  obtain ⟨rfl, rfl, rfl⟩ := trodAll_nil r2
  obtain rfl : args = #[v0, v1, v2] := by cases args; simp_all
  obtain ⟨rfl, rfl⟩ := trodVars_none hV
  have k0 := h0
  have lt0 : ∀ x ∈ p0, x.block < W.heap.size := by obtain ⟨m, hm⟩ := k0; exact DataW.trod_lt m _ _ _ hm
  obtain ⟨a0, rfl, hd0, hp0, w0⟩ := open_int Try.underlying22 (hval 0 22 v0 rfl rfl) h0
  have k1 := h1
  have lt1 : ∀ x ∈ p1, x.block < W.heap.size := by obtain ⟨m, hm⟩ := k1; exact DataW.trod_lt m _ _ _ hm
  obtain ⟨c10, c11, c12, y10, y11, y12, m1, rfl, hd1, hp1, hy10, hy11, hy12⟩ := open_agg3 Try.underlying29 (by kernel_rfl) (by kernel_rfl) (hval 1 29 v1 rfl rfl) h1
  obtain ⟨a10, e10, hdd10, w10⟩ := DataW.trod_int Try.underlying3 hy10
  obtain ⟨a11, e11, hdd11, w11⟩ := DataW.trod_int Try.underlying3 hy11
  obtain ⟨a12, e12, hdd12, w12⟩ := DataW.trod_int Try.underlying22 hy12
  simp at e10 e11 e12
  subst e10 e11 e12
  have k2 := h2
  have lt2 : ∀ x ∈ p2, x.block < W.heap.size := by obtain ⟨m, hm⟩ := k2; exact DataW.trod_lt m _ _ _ hm
  obtain ⟨c20, c21, c22, y20, y21, y22, m2, rfl, hd2, hp2, hy20, hy21, hy22⟩ := open_agg3 Try.underlying29 (by kernel_rfl) (by kernel_rfl) (hval 2 29 v2 rfl rfl) h2
  obtain ⟨a20, e20, hdd20, w20⟩ := DataW.trod_int Try.underlying3 hy20
  obtain ⟨a21, e21, hdd21, w21⟩ := DataW.trod_int Try.underlying3 hy21
  obtain ⟨a22, e22, hdd22, w22⟩ := DataW.trod_int Try.underlying22 hy22
  simp at e20 e21 e22
  subst e20 e21 e22
  clear hA0 hval0
  refine (walk a0 a10 a11 a12 a20 a21 a22 W w0 w10 w11 w12 w20 w21 w22).mono fun e W' ⟨he, bel⟩ => ?_
  subst he
  exact ⟨_, rfl, _, _, _, [], _, [], hW', trodAll_mk1 (shut_bool Try.underlying4 _), (trodAll_cons_mk (Below.trod laidOut (by kernel_rfl) (of_decide_eq_true (by kernel_rfl)) k0 bel lt0) (trodAll_cons_mk (Below.trod laidOut (by kernel_rfl) (of_decide_eq_true (by kernel_rfl)) k1 bel lt1) (trodAll_cons_mk (Below.trod laidOut (by kernel_rfl) (of_decide_eq_true (by kernel_rfl)) k2 bel lt2) trodAll_mk0))), rfl, bel.frame _, fun h => by cases h⟩

theorem over : Rows.packKeepsRow.holds Try.pinned (OpenSpec.ofChange Rows.packKeepsSpec) :=
  OpenClaim.holds_of_wide 5 Try.f5 rfl rfl rfl rfl rfl rfl rfl ⟨rfl, rfl, rfl, rfl, rfl⟩ rfl rfl rfl rfl rfl (by kernel_rfl) Try.func5 (by kernel_rfl)
    (of_decide_eq_true (by kernel_rfl)) (by unfold Func.isWrapper; first | (rw [if_pos (by decide +kernel)]; kernel_rfl) | (rw [if_neg (by decide +kernel)]; exact ⟨rfl, rfl⟩))
    (fun os started H enc _ => lifted os started H enc)

theorem proved : Rows.PackKeepsSaid := over
#print axioms proved
end Go.Proofs.Ytmhehnckjmoikaa.packKeeps
