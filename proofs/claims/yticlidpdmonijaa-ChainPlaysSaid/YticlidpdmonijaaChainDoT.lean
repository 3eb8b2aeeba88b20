/-
  An act on a chain: the first block is taken.
-/
import Derived.Test.YticlidpdmonijaaChainDo
import Derived.Deep.RegionHeld3
import Derived.BigQuiet
namespace Go.Proofs.Yticlidpdmonijaa.Pk
open Go.RowKit
set_option linter.unusedVariables false
set_option linter.unusedSimpArgs false

set_option maxRecDepth 100000 in
set_option maxHeartbeats 2000000 in
theorem do_t0any (F : ChainFns) (p : Pl) (c : Cf) (s : St) (q : Nat) (b : Int) (x : Nat) (t : List Nat) (lb : List Nat) (w : World) (hT : Two w p c s q (x :: t) lb) (hl : (x :: t).length + lb.length ≤ 9000) (hb : 0 ≤ b) :
    Calls Try.prog 10 #[.pointer (some ⟨p.a, 0, none⟩), .pointer (some ⟨q, 0, none⟩), .agg #[.int .u8 2, .int .i64 0, .int .i64 b]] w (DoPost w p c q (x :: t) lb) := by
  have HRs : Hid (∀ w' a cap, Row w' .i64 a (ints (x :: t)) → Calls Try.prog 29 #[.slice a (t.length + 1) cap] w' (NewInts w' t)) := Lib.hid (fun w' a cap hr => by
    have := rcRest_any a cap (ints (x :: t)) w' hr (by rw [ints_length]; simp at hl ⊢; omega) (by rw [ints_length]; simp)
    rw [ints_length] at this
    exact this.mono (fun e w'' h => h.ints rfl))
  have HT := Lib.hid hT
  have hfd := conf_field0 (c.N : Int) (c.W : Int) (c.R : Int) (c.K : Int)
  clear hT
  go_enter Try.func10, Try.ntmps10
  have hBk := Blk.new w #[.int .u8 2, .int .i64 0, .int .i64 b] 36
  have HBk := Lib.hid hBk
  have HT0 := Lib.hid (HT.out.later (below_new w (.cells #[.int .u8 2, .int .i64 0, .int .i64 b] 36)))
  have HTo0 : Hid (Touch (XC p q) w (w.alloc (.cells #[.int .u8 2, .int .i64 0, .int .i64 b] 36))) := Lib.hid (Touch.of_below (below_new w _))
  have x0 := hBk.cell 0 rfl
  have x1 := hBk.cell 1 rfl
  have x2 := hBk.cell 2 rfl
  clear hBk
  go_wp2_with fail
  go_region_held3 (fun w' => w'.cell? ⟨w.heap.size, 2, none⟩ = some (.int .i64 b)) (first | exact y2 | exact x2)
    (first | (go_at_call 22; refine (gconfV p c s _ HT0.out.drew.gr).mono ?_; rintro e w1 ⟨rfl, hb⟩; have HT1 := Lib.hid (HT0.out.drew.later hb); have HBk1 := Lib.hid (HBk.out.drew.later hb); have HTo1 : Hid (Touch (XC p q) w w1) := Lib.hid (HTo0.out.trans (Touch.of_below (below_undrew' hb))); have y2 := HBk1.out.cell 2 rfl; clear hb))
  clear x0 x1 x2 y2
  have y0 := HBk1.out.cell 0 rfl
  have y1 := HBk1.out.cell 1 rfl
  have y2 := HBk1.out.cell 2 rfl
  go_wp2_with fail
  refine (rcOf0 _ _ _ _ _ HT1.out.ch).mono ?_
  rintro e w2 ⟨⟨a, cap, rfl, hr, hro⟩, rfl⟩
  have HR := Lib.hid hr
  have HRO := Lib.hid hro
  clear hr hro
  go_wp2_with fail
  refine (gmeter_any p c s _ HT1.out.gr).mono ?_
  rintro e w2 ⟨rfl, rfl⟩
  go_wp2_with fail
  refine (F.take_yes p c s 0 x t _ HT1.out.gr HT1.out.a0 (by decide)).mono ?_
  rintro e w6 ⟨m, rfl, hG6, hm0, hm1, ht6⟩
  obtain ⟨d, hd0, hd1, hdw⟩ := meter_d hm0 (by omega)
  have HG6 := Lib.hid hG6
  have HC6 := Lib.hid (HT1.out.ch.touch ht6 (fun i hi => Or.inr hi) (fun hi => HT.out.out (Or.inr hi)))
  have HBk6 := Lib.hid (HBk1.out.touch ht6 (fun hi => fresh_not HT.out (Or.inr hi)))
  have HR6 := Lib.hid (HR.out.touch ht6 (HRO.out.mono (fun i hi => Or.inr hi)))
  have HTo6 : Hid (Touch (XC p q) w w6) := Lib.hid (HTo1.out.trans (ht6.mono (fun i _ hi => Or.inr hi)))
  have hd16 : (d : Int) ≤ 16 := by omega
  clear hG6 ht6 hm0 hm1 hd0 hd1 y0 y1 y2
  have y1 := HBk6.out.cell 1 rfl
  go_wp2_with fail
  go_region_held3 (fun w' => w'.cell? ⟨w.heap.size, 1, none⟩ = some (.int .i64 0)) (first | exact HBk8.out.cell 1 rfl | exact HBk7.out.cell 1 rfl | exact y1)
    (first | (go_at_call 29; refine (HRs.out _ _ _ HR6.out.drew1).mono ?_; rintro e w7 ⟨a7, cap7, rfl, hr7, hf7, hb7⟩; have HG7 := Lib.hid (HG6.out.drew.later hb7); have HC7 := Lib.hid (HC6.out.drew.later hb7); have HBk7 := Lib.hid (HBk6.out.drew.later hb7); have z1 := HBk7.out.cell 1 rfl; have HR7 := Lib.hid hr7; have HRl7 := Lib.hid (HR6.out.drew1.later hb7); have HO7 := Lib.hid (fresh_out6 (q := q) HG6.out.drew HC6.out.drew.lt (zs := ints t) hf7); have HTo7 : Hid (Touch (XC p q) w w7) := Lib.hid (HTo6.out.trans (Touch.of_below (below_undrew' hb7))); clear hr7 hf7 hb7) | (go_at_call 26; refine (rcSet0 _ _ _ _ t _ _ _ rfl _ HC7.out HR7.out HO7.out).mono ?_; rintro e w8 ⟨rfl, hc8, ht8⟩; have HC8 := Lib.hid hc8; have HG8 := Lib.hid (HG7.out.touch ht8 (fun i hi e => HT.out.out (by rw [← e]; exact hi))); have HBk8 := Lib.hid (HBk7.out.touch ht8 (by have := HT.out.ch.lt; omega)); have HR8 := Lib.hid (HRl7.out.touch ht8 (HRO.out.mono (fun i hi => Or.inl hi))); have HTo8 : Hid (Touch (XC p q) w w8) := Lib.hid (HTo7.out.trans (ht8.mono (fun i _ hi => Or.inl hi))); clear hc8 ht8))
  have HTo8 := HTo8
  have hm := HT.out.gr.may
  have hz := HT.out.gr.len
  have HA := Lib.hid (HT.out.a0.take hm hz (by decide))
  have hxN := HT.out.a0.lt x (by simp)
  have hnx := Lib.hid (show x ∉ lb from fun h => HT.out.dj x (by simp) h)
  obtain ⟨g, off, rfl, hg, hc0⟩ := HR8.out 0 (by simp [ints])
  have hc0' : w8.cell? ⟨g, off, none⟩ = some (.int .i64 (x : Int)) := hc0
  clear hc0 hm hz
  go_wp2_with fail
  refine (seeL p c _ x 0 _ HG8.out hxN HA.out.2).mono ?_
  rintro e w9 ⟨rfl, hdr⟩
  have HG9 := Lib.hid (HG8.out.drw hdr)
  have HC9 := Lib.hid (HC8.out.later hdr.new)
  have HTo9 : Hid (Touch (XC p q) w w9) := Lib.hid (HTo8.out.trans (Touch.of_below hdr.new))
  clear hdr
  go_wp2_with fail
  refine (gmeter_any p c _ _ HG9.out).mono ?_
  rintro e w10 ⟨rfl, rfl⟩
  go_wp2_with fail
  go_ret
  have hm := HT.out.gr.may
  have hz := HT.out.gr.len
  exact ⟨ret_bool (by first | rfl | (simp; done) | (simp; omega)), _, t, lb, ⟨HG9.out, HC9.out, HT.out.out, HA.out.1, HT.out.a1.take_other hm hz (by decide) (by decide) (by decide) hnx.out, fun y hy => HT.out.dj y (by simp [hy])⟩, by simp; omega, HTo9.out⟩

set_option maxRecDepth 100000 in
set_option maxHeartbeats 2000000 in
theorem do_t1any (F : ChainFns) (p : Pl) (c : Cf) (s : St) (q : Nat) (b : Int) (x : Nat) (t : List Nat) (la : List Nat) (w : World) (hT : Two w p c s q la (x :: t)) (hl : la.length + (x :: t).length ≤ 9000) (hb : 0 ≤ b) :
    Calls Try.prog 10 #[.pointer (some ⟨p.a, 0, none⟩), .pointer (some ⟨q, 0, none⟩), .agg #[.int .u8 2, .int .i64 1, .int .i64 b]] w (DoPost w p c q la (x :: t)) := by
  have HRs : Hid (∀ w' a cap, Row w' .i64 a (ints (x :: t)) → Calls Try.prog 29 #[.slice a (t.length + 1) cap] w' (NewInts w' t)) := Lib.hid (fun w' a cap hr => by
    have := rcRest_any a cap (ints (x :: t)) w' hr (by rw [ints_length]; simp at hl ⊢; omega) (by rw [ints_length]; simp)
    rw [ints_length] at this
    exact this.mono (fun e w'' h => h.ints rfl))
  have HT := Lib.hid hT
  have hfd := conf_field0 (c.N : Int) (c.W : Int) (c.R : Int) (c.K : Int)
  clear hT
  go_enter Try.func10, Try.ntmps10
  have hBk := Blk.new w #[.int .u8 2, .int .i64 1, .int .i64 b] 36
  have HBk := Lib.hid hBk
  have HT0 := Lib.hid (HT.out.later (below_new w (.cells #[.int .u8 2, .int .i64 1, .int .i64 b] 36)))
  have HTo0 : Hid (Touch (XC p q) w (w.alloc (.cells #[.int .u8 2, .int .i64 1, .int .i64 b] 36))) := Lib.hid (Touch.of_below (below_new w _))
  have x0 := hBk.cell 0 rfl
  have x1 := hBk.cell 1 rfl
  have x2 := hBk.cell 2 rfl
  clear hBk
  go_wp2_with fail
  go_region_held3 (fun w' => w'.cell? ⟨w.heap.size, 2, none⟩ = some (.int .i64 b)) (first | exact y2 | exact x2)
    (first | (go_at_call 22; refine (gconfV p c s _ HT0.out.drew.gr).mono ?_; rintro e w1 ⟨rfl, hb⟩; have HT1 := Lib.hid (HT0.out.drew.later hb); have HBk1 := Lib.hid (HBk.out.drew.later hb); have HTo1 : Hid (Touch (XC p q) w w1) := Lib.hid (HTo0.out.trans (Touch.of_below (below_undrew' hb))); have y2 := HBk1.out.cell 2 rfl; clear hb))
  clear x0 x1 x2 y2
  have y0 := HBk1.out.cell 0 rfl
  have y1 := HBk1.out.cell 1 rfl
  have y2 := HBk1.out.cell 2 rfl
  go_wp2_with fail
  refine (rcOf1 _ _ _ _ _ HT1.out.ch).mono ?_
  rintro e w2 ⟨⟨a, cap, rfl, hr, hro⟩, rfl⟩
  have HR := Lib.hid hr
  have HRO := Lib.hid hro
  clear hr hro
  go_wp2_with fail
  refine (gmeter_any p c s _ HT1.out.gr).mono ?_
  rintro e w2 ⟨rfl, rfl⟩
  go_wp2_with fail
  refine (F.take_yes p c s 1 x t _ HT1.out.gr HT1.out.a1 (by decide)).mono ?_
  rintro e w6 ⟨m, rfl, hG6, hm0, hm1, ht6⟩
  obtain ⟨d, hd0, hd1, hdw⟩ := meter_d hm0 (by omega)
  have HG6 := Lib.hid hG6
  have HC6 := Lib.hid (HT1.out.ch.touch ht6 (fun i hi => Or.inr hi) (fun hi => HT.out.out (Or.inr hi)))
  have HBk6 := Lib.hid (HBk1.out.touch ht6 (fun hi => fresh_not HT.out (Or.inr hi)))
  have HR6 := Lib.hid (HR.out.touch ht6 (HRO.out.mono (fun i hi => Or.inr hi)))
  have HTo6 : Hid (Touch (XC p q) w w6) := Lib.hid (HTo1.out.trans (ht6.mono (fun i _ hi => Or.inr hi)))
  have hd16 : (d : Int) ≤ 16 := by omega
  clear hG6 ht6 hm0 hm1 hd0 hd1 y0 y1 y2
  have y1 := HBk6.out.cell 1 rfl
  go_wp2_with fail
  go_region_held3 (fun w' => w'.cell? ⟨w.heap.size, 1, none⟩ = some (.int .i64 1)) (first | exact HBk8.out.cell 1 rfl | exact HBk7.out.cell 1 rfl | exact y1)
    (first | (go_at_call 29; refine (HRs.out _ _ _ HR6.out.drew1).mono ?_; rintro e w7 ⟨a7, cap7, rfl, hr7, hf7, hb7⟩; have HG7 := Lib.hid (HG6.out.drew.later hb7); have HC7 := Lib.hid (HC6.out.drew.later hb7); have HBk7 := Lib.hid (HBk6.out.drew.later hb7); have z1 := HBk7.out.cell 1 rfl; have HR7 := Lib.hid hr7; have HRl7 := Lib.hid (HR6.out.drew1.later hb7); have HO7 := Lib.hid (fresh_out6 (q := q) HG6.out.drew HC6.out.drew.lt (zs := ints t) hf7); have HTo7 : Hid (Touch (XC p q) w w7) := Lib.hid (HTo6.out.trans (Touch.of_below (below_undrew' hb7))); clear hr7 hf7 hb7) | (go_at_call 26; refine (rcSet1 _ _ _ _ t _ _ _ rfl _ HC7.out HR7.out HO7.out).mono ?_; rintro e w8 ⟨rfl, hc8, ht8⟩; have HC8 := Lib.hid hc8; have HG8 := Lib.hid (HG7.out.touch ht8 (fun i hi e => HT.out.out (by rw [← e]; exact hi))); have HBk8 := Lib.hid (HBk7.out.touch ht8 (by have := HT.out.ch.lt; omega)); have HR8 := Lib.hid (HRl7.out.touch ht8 (HRO.out.mono (fun i hi => Or.inl hi))); have HTo8 : Hid (Touch (XC p q) w w8) := Lib.hid (HTo7.out.trans (ht8.mono (fun i _ hi => Or.inl hi))); clear hc8 ht8))
  have HTo8 := HTo8
  have hm := HT.out.gr.may
  have hz := HT.out.gr.len
  have HA := Lib.hid (HT.out.a1.take hm hz (by decide))
  have hxN := HT.out.a1.lt x (by simp)
  have hnx := Lib.hid (show x ∉ la from fun h => HT.out.dj x h (by simp))
  obtain ⟨g, off, rfl, hg, hc0⟩ := HR8.out 0 (by simp [ints])
  have hc0' : w8.cell? ⟨g, off, none⟩ = some (.int .i64 (x : Int)) := hc0
  clear hc0 hm hz
  go_wp2_with fail
  refine (seeL p c _ x 0 _ HG8.out hxN HA.out.2).mono ?_
  rintro e w9 ⟨rfl, hdr⟩
  have HG9 := Lib.hid (HG8.out.drw hdr)
  have HC9 := Lib.hid (HC8.out.later hdr.new)
  have HTo9 : Hid (Touch (XC p q) w w9) := Lib.hid (HTo8.out.trans (Touch.of_below hdr.new))
  clear hdr
  go_wp2_with fail
  refine (gmeter_any p c _ _ HG9.out).mono ?_
  rintro e w10 ⟨rfl, rfl⟩
  go_wp2_with fail
  go_ret
  have hm := HT.out.gr.may
  have hz := HT.out.gr.len
  exact ⟨ret_bool (by first | rfl | (simp; done) | (simp; omega)), _, la, t, ⟨HG9.out, HC9.out, HT.out.out, HT.out.a0.take_other hm hz (by decide) (by decide) (by decide) hnx.out, HA.out.1, fun y hy h => HT.out.dj y hy (by simp [h])⟩, by simp; omega, HTo9.out⟩

set_option maxRecDepth 100000 in
set_option maxHeartbeats 2000000 in
theorem do_t0neg (F : ChainFns) (p : Pl) (c : Cf) (s : St) (q : Nat) (b : Int) (x : Nat) (t : List Nat) (lb : List Nat) (w : World) (hT : Two w p c s q (x :: t) lb) (hl : (x :: t).length + lb.length ≤ 9000) (hb : b < 0) :
    Calls Try.prog 10 #[.pointer (some ⟨p.a, 0, none⟩), .pointer (some ⟨q, 0, none⟩), .agg #[.int .u8 2, .int .i64 0, .int .i64 b]] w (DoPost w p c q (x :: t) lb) := by
  have HRs : Hid (∀ w' a cap, Row w' .i64 a (ints (x :: t)) → Calls Try.prog 29 #[.slice a (t.length + 1) cap] w' (NewInts w' t)) := Lib.hid (fun w' a cap hr => by
    have := rcRest_any a cap (ints (x :: t)) w' hr (by rw [ints_length]; simp at hl ⊢; omega) (by rw [ints_length]; simp)
    rw [ints_length] at this
    exact this.mono (fun e w'' h => h.ints rfl))
  have HT := Lib.hid hT
  have hfd := conf_field0 (c.N : Int) (c.W : Int) (c.R : Int) (c.K : Int)
  have hbn : ¬ (0 : Int) ≤ b := by omega
  have hbd : decide ((0 : Int) ≤ b) = false := decide_eq_false hbn
  clear hT
  go_enter Try.func10, Try.ntmps10
  have hBk := Blk.new w #[.int .u8 2, .int .i64 0, .int .i64 b] 36
  have HBk := Lib.hid hBk
  have HT0 := Lib.hid (HT.out.later (below_new w (.cells #[.int .u8 2, .int .i64 0, .int .i64 b] 36)))
  have HTo0 : Hid (Touch (XC p q) w (w.alloc (.cells #[.int .u8 2, .int .i64 0, .int .i64 b] 36))) := Lib.hid (Touch.of_below (below_new w _))
  have HTn : Hid (∀ n, Two ((w.alloc (.cells #[.int .u8 2, .int .i64 0, .int .i64 b] 36)).drewN n) p c s q (x :: t) lb) := Lib.hid (fun n => HT0.out.later (Drw.new ⟨n, rfl⟩))
  have HBkn : Hid (∀ n, Blk ((w.alloc (.cells #[.int .u8 2, .int .i64 0, .int .i64 b] 36)).drewN n) w.heap.size #[.int .u8 2, .int .i64 0, .int .i64 b] 36) := Lib.hid (fun n => HBk.out.drewN n)
  have HTon : Hid (∀ n, Touch (XC p q) w ((w.alloc (.cells #[.int .u8 2, .int .i64 0, .int .i64 b] 36)).drewN n)) := Lib.hid (fun n => HTo0.out.drewN n)
  have x0 := hBk.cell 0 rfl
  have x1 := hBk.cell 1 rfl
  have x2 := hBk.cell 2 rfl
  clear hBk
  go_wp2_with fail
  go_quiet (fail)
  go_wp2_with fail
  refine (rcOf0 _ _ _ _ _ (HTn.out _).ch).mono ?_
  rintro e w1 ⟨⟨a, cap, rfl, hr, hro⟩, hw⟩
  have HT1 : Hid (Two w1 p c s q (x :: t) lb) := Lib.hid (hw ▸ HTn.out _)
  have HBk1 : Hid (Blk w1 w.heap.size #[.int .u8 2, .int .i64 0, .int .i64 b] 36) := Lib.hid (hw ▸ HBkn.out _)
  have HTo1 : Hid (Touch (XC p q) w w1) := Lib.hid (hw ▸ HTon.out _)
  rw [hw] at hr
  have HR := Lib.hid hr
  have HRO := Lib.hid hro
  clear hw hr hro x0 x1 x2
  have y0 := HBk1.out.cell 0 rfl
  have y1 := HBk1.out.cell 1 rfl
  have y2 := HBk1.out.cell 2 rfl
  go_wp2_with fail
  refine (gmeter_any p c s _ HT1.out.gr).mono ?_
  rintro e w2 ⟨rfl, rfl⟩
  go_wp2_with fail
  refine (F.take_yes p c s 0 x t _ HT1.out.gr HT1.out.a0 (by decide)).mono ?_
  rintro e w6 ⟨m, rfl, hG6, hm0, hm1, ht6⟩
  obtain ⟨d, hd0, hd1, hdw⟩ := meter_d hm0 (by omega)
  have HG6 := Lib.hid hG6
  have HC6 := Lib.hid (HT1.out.ch.touch ht6 (fun i hi => Or.inr hi) (fun hi => HT.out.out (Or.inr hi)))
  have HBk6 := Lib.hid (HBk1.out.touch ht6 (fun hi => fresh_not HT.out (Or.inr hi)))
  have HR6 := Lib.hid (HR.out.touch ht6 (HRO.out.mono (fun i hi => Or.inr hi)))
  have HTo6 : Hid (Touch (XC p q) w w6) := Lib.hid (HTo1.out.trans (ht6.mono (fun i _ hi => Or.inr hi)))
  have hd16 : (d : Int) ≤ 16 := by omega
  clear hG6 ht6 hm0 hm1 hd0 hd1 y0 y1 y2
  have y1 := HBk6.out.cell 1 rfl
  go_wp2_with fail
  go_region_held3 (fun w' => w'.cell? ⟨w.heap.size, 1, none⟩ = some (.int .i64 0)) (first | exact HBk8.out.cell 1 rfl | exact HBk7.out.cell 1 rfl | exact y1)
    (first | (go_at_call 29; refine (HRs.out _ _ _ HR6.out.drew1).mono ?_; rintro e w7 ⟨a7, cap7, rfl, hr7, hf7, hb7⟩; have HG7 := Lib.hid (HG6.out.drew.later hb7); have HC7 := Lib.hid (HC6.out.drew.later hb7); have HBk7 := Lib.hid (HBk6.out.drew.later hb7); have z1 := HBk7.out.cell 1 rfl; have HR7 := Lib.hid hr7; have HRl7 := Lib.hid (HR6.out.drew1.later hb7); have HO7 := Lib.hid (fresh_out6 (q := q) HG6.out.drew HC6.out.drew.lt (zs := ints t) hf7); have HTo7 : Hid (Touch (XC p q) w w7) := Lib.hid (HTo6.out.trans (Touch.of_below (below_undrew' hb7))); clear hr7 hf7 hb7) | (go_at_call 26; refine (rcSet0 _ _ _ _ t _ _ _ rfl _ HC7.out HR7.out HO7.out).mono ?_; rintro e w8 ⟨rfl, hc8, ht8⟩; have HC8 := Lib.hid hc8; have HG8 := Lib.hid (HG7.out.touch ht8 (fun i hi e => HT.out.out (by rw [← e]; exact hi))); have HBk8 := Lib.hid (HBk7.out.touch ht8 (by have := HT.out.ch.lt; omega)); have HR8 := Lib.hid (HRl7.out.touch ht8 (HRO.out.mono (fun i hi => Or.inl hi))); have HTo8 : Hid (Touch (XC p q) w w8) := Lib.hid (HTo7.out.trans (ht8.mono (fun i _ hi => Or.inl hi))); clear hc8 ht8))
  have HTo8 := HTo8
  have hm := HT.out.gr.may
  have hz := HT.out.gr.len
  have HA := Lib.hid (HT.out.a0.take hm hz (by decide))
  have hxN := HT.out.a0.lt x (by simp)
  have hnx := Lib.hid (show x ∉ lb from fun h => HT.out.dj x (by simp) h)
  obtain ⟨g, off, rfl, hg, hc0⟩ := HR8.out 0 (by simp [ints])
  have hc0' : w8.cell? ⟨g, off, none⟩ = some (.int .i64 (x : Int)) := hc0
  clear hc0 hm hz
  go_wp2_with fail
  refine (seeL p c _ x 0 _ HG8.out hxN HA.out.2).mono ?_
  rintro e w9 ⟨rfl, hdr⟩
  have HG9 := Lib.hid (HG8.out.drw hdr)
  have HC9 := Lib.hid (HC8.out.later hdr.new)
  have HTo9 : Hid (Touch (XC p q) w w9) := Lib.hid (HTo8.out.trans (Touch.of_below hdr.new))
  clear hdr
  go_wp2_with fail
  refine (gmeter_any p c _ _ HG9.out).mono ?_
  rintro e w10 ⟨rfl, rfl⟩
  go_wp2_with fail
  go_ret
  have hm := HT.out.gr.may
  have hz := HT.out.gr.len
  exact ⟨ret_bool (by first | rfl | (simp; done) | (simp; omega)), _, t, lb, ⟨HG9.out, HC9.out, HT.out.out, HA.out.1, HT.out.a1.take_other hm hz (by decide) (by decide) (by decide) hnx.out, fun y hy => HT.out.dj y (by simp [hy])⟩, by simp; omega, HTo9.out⟩

set_option maxRecDepth 100000 in
set_option maxHeartbeats 2000000 in
theorem do_t1neg (F : ChainFns) (p : Pl) (c : Cf) (s : St) (q : Nat) (b : Int) (x : Nat) (t : List Nat) (la : List Nat) (w : World) (hT : Two w p c s q la (x :: t)) (hl : la.length + (x :: t).length ≤ 9000) (hb : b < 0) :
    Calls Try.prog 10 #[.pointer (some ⟨p.a, 0, none⟩), .pointer (some ⟨q, 0, none⟩), .agg #[.int .u8 2, .int .i64 1, .int .i64 b]] w (DoPost w p c q la (x :: t)) := by
  have HRs : Hid (∀ w' a cap, Row w' .i64 a (ints (x :: t)) → Calls Try.prog 29 #[.slice a (t.length + 1) cap] w' (NewInts w' t)) := Lib.hid (fun w' a cap hr => by
    have := rcRest_any a cap (ints (x :: t)) w' hr (by rw [ints_length]; simp at hl ⊢; omega) (by rw [ints_length]; simp)
    rw [ints_length] at this
    exact this.mono (fun e w'' h => h.ints rfl))
  have HT := Lib.hid hT
  have hfd := conf_field0 (c.N : Int) (c.W : Int) (c.R : Int) (c.K : Int)
  have hbn : ¬ (0 : Int) ≤ b := by omega
  have hbd : decide ((0 : Int) ≤ b) = false := decide_eq_false hbn
  clear hT
  go_enter Try.func10, Try.ntmps10
  have hBk := Blk.new w #[.int .u8 2, .int .i64 1, .int .i64 b] 36
  have HBk := Lib.hid hBk
  have HT0 := Lib.hid (HT.out.later (below_new w (.cells #[.int .u8 2, .int .i64 1, .int .i64 b] 36)))
  have HTo0 : Hid (Touch (XC p q) w (w.alloc (.cells #[.int .u8 2, .int .i64 1, .int .i64 b] 36))) := Lib.hid (Touch.of_below (below_new w _))
  have HTn : Hid (∀ n, Two ((w.alloc (.cells #[.int .u8 2, .int .i64 1, .int .i64 b] 36)).drewN n) p c s q la (x :: t)) := Lib.hid (fun n => HT0.out.later (Drw.new ⟨n, rfl⟩))
  have HBkn : Hid (∀ n, Blk ((w.alloc (.cells #[.int .u8 2, .int .i64 1, .int .i64 b] 36)).drewN n) w.heap.size #[.int .u8 2, .int .i64 1, .int .i64 b] 36) := Lib.hid (fun n => HBk.out.drewN n)
  have HTon : Hid (∀ n, Touch (XC p q) w ((w.alloc (.cells #[.int .u8 2, .int .i64 1, .int .i64 b] 36)).drewN n)) := Lib.hid (fun n => HTo0.out.drewN n)
  have x0 := hBk.cell 0 rfl
  have x1 := hBk.cell 1 rfl
  have x2 := hBk.cell 2 rfl
  clear hBk
  go_wp2_with fail
  go_quiet (fail)
  go_wp2_with fail
  refine (rcOf1 _ _ _ _ _ (HTn.out _).ch).mono ?_
  rintro e w1 ⟨⟨a, cap, rfl, hr, hro⟩, hw⟩
  have HT1 : Hid (Two w1 p c s q la (x :: t)) := Lib.hid (hw ▸ HTn.out _)
  have HBk1 : Hid (Blk w1 w.heap.size #[.int .u8 2, .int .i64 1, .int .i64 b] 36) := Lib.hid (hw ▸ HBkn.out _)
  have HTo1 : Hid (Touch (XC p q) w w1) := Lib.hid (hw ▸ HTon.out _)
  rw [hw] at hr
  have HR := Lib.hid hr
  have HRO := Lib.hid hro
  clear hw hr hro x0 x1 x2
  have y0 := HBk1.out.cell 0 rfl
  have y1 := HBk1.out.cell 1 rfl
  have y2 := HBk1.out.cell 2 rfl
  go_wp2_with fail
  refine (gmeter_any p c s _ HT1.out.gr).mono ?_
  rintro e w2 ⟨rfl, rfl⟩
  go_wp2_with fail
  refine (F.take_yes p c s 1 x t _ HT1.out.gr HT1.out.a1 (by decide)).mono ?_
  rintro e w6 ⟨m, rfl, hG6, hm0, hm1, ht6⟩
  obtain ⟨d, hd0, hd1, hdw⟩ := meter_d hm0 (by omega)
  have HG6 := Lib.hid hG6
  have HC6 := Lib.hid (HT1.out.ch.touch ht6 (fun i hi => Or.inr hi) (fun hi => HT.out.out (Or.inr hi)))
  have HBk6 := Lib.hid (HBk1.out.touch ht6 (fun hi => fresh_not HT.out (Or.inr hi)))
  have HR6 := Lib.hid (HR.out.touch ht6 (HRO.out.mono (fun i hi => Or.inr hi)))
  have HTo6 : Hid (Touch (XC p q) w w6) := Lib.hid (HTo1.out.trans (ht6.mono (fun i _ hi => Or.inr hi)))
  have hd16 : (d : Int) ≤ 16 := by omega
  clear hG6 ht6 hm0 hm1 hd0 hd1 y0 y1 y2
  have y1 := HBk6.out.cell 1 rfl
  go_wp2_with fail
  go_region_held3 (fun w' => w'.cell? ⟨w.heap.size, 1, none⟩ = some (.int .i64 1)) (first | exact HBk8.out.cell 1 rfl | exact HBk7.out.cell 1 rfl | exact y1)
    (first | (go_at_call 29; refine (HRs.out _ _ _ HR6.out.drew1).mono ?_; rintro e w7 ⟨a7, cap7, rfl, hr7, hf7, hb7⟩; have HG7 := Lib.hid (HG6.out.drew.later hb7); have HC7 := Lib.hid (HC6.out.drew.later hb7); have HBk7 := Lib.hid (HBk6.out.drew.later hb7); have z1 := HBk7.out.cell 1 rfl; have HR7 := Lib.hid hr7; have HRl7 := Lib.hid (HR6.out.drew1.later hb7); have HO7 := Lib.hid (fresh_out6 (q := q) HG6.out.drew HC6.out.drew.lt (zs := ints t) hf7); have HTo7 : Hid (Touch (XC p q) w w7) := Lib.hid (HTo6.out.trans (Touch.of_below (below_undrew' hb7))); clear hr7 hf7 hb7) | (go_at_call 26; refine (rcSet1 _ _ _ _ t _ _ _ rfl _ HC7.out HR7.out HO7.out).mono ?_; rintro e w8 ⟨rfl, hc8, ht8⟩; have HC8 := Lib.hid hc8; have HG8 := Lib.hid (HG7.out.touch ht8 (fun i hi e => HT.out.out (by rw [← e]; exact hi))); have HBk8 := Lib.hid (HBk7.out.touch ht8 (by have := HT.out.ch.lt; omega)); have HR8 := Lib.hid (HRl7.out.touch ht8 (HRO.out.mono (fun i hi => Or.inl hi))); have HTo8 : Hid (Touch (XC p q) w w8) := Lib.hid (HTo7.out.trans (ht8.mono (fun i _ hi => Or.inl hi))); clear hc8 ht8))
  have HTo8 := HTo8
  have hm := HT.out.gr.may
  have hz := HT.out.gr.len
  have HA := Lib.hid (HT.out.a1.take hm hz (by decide))
  have hxN := HT.out.a1.lt x (by simp)
  have hnx := Lib.hid (show x ∉ la from fun h => HT.out.dj x h (by simp))
  obtain ⟨g, off, rfl, hg, hc0⟩ := HR8.out 0 (by simp [ints])
  have hc0' : w8.cell? ⟨g, off, none⟩ = some (.int .i64 (x : Int)) := hc0
  clear hc0 hm hz
  go_wp2_with fail
  refine (seeL p c _ x 0 _ HG8.out hxN HA.out.2).mono ?_
  rintro e w9 ⟨rfl, hdr⟩
  have HG9 := Lib.hid (HG8.out.drw hdr)
  have HC9 := Lib.hid (HC8.out.later hdr.new)
  have HTo9 : Hid (Touch (XC p q) w w9) := Lib.hid (HTo8.out.trans (Touch.of_below hdr.new))
  clear hdr
  go_wp2_with fail
  refine (gmeter_any p c _ _ HG9.out).mono ?_
  rintro e w10 ⟨rfl, rfl⟩
  go_wp2_with fail
  go_ret
  have hm := HT.out.gr.may
  have hz := HT.out.gr.len
  exact ⟨ret_bool (by first | rfl | (simp; done) | (simp; omega)), _, la, t, ⟨HG9.out, HC9.out, HT.out.out, HT.out.a0.take_other hm hz (by decide) (by decide) (by decide) hnx.out, HA.out.1, fun y hy h => HT.out.dj y hy (by simp [h])⟩, by simp; omega, HTo9.out⟩

end Go.Proofs.Yticlidpdmonijaa.Pk
