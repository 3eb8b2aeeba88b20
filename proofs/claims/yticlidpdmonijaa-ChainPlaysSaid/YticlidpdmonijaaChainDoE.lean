/-
  An act on a chain: an empty one has no first block.
-/
import Derived.Test.YticlidpdmonijaaChainDo
import Derived.Deep.RegionHeld3
import Derived.BigQuiet
namespace Go.Proofs.Yticlidpdmonijaa.Pk
open Go.RowKit
set_option linter.unusedVariables false
set_option linter.unusedSimpArgs false

set_option maxRecDepth 100000 in
set_option maxHeartbeats 2000000 in
theorem do_te0neg (F : ChainFns) (p : Pl) (c : Cf) (s : St) (q : Nat) (b : Int) (lb : List Nat) (w : World) (hT : Two w p c s q ([] : List Nat) lb) (hl : ([] : List Nat).length + lb.length ≤ 9000) (hb : b < 0) :
    Calls Try.prog 10 #[.pointer (some ⟨p.a, 0, none⟩), .pointer (some ⟨q, 0, none⟩), .agg #[.int .u8 2, .int .i64 0, .int .i64 b]] w (DoPost w p c q ([] : List Nat) lb) := by
  have HT := Lib.hid hT
  have hfd := conf_field0 (c.N : Int) (c.W : Int) (c.R : Int) (c.K : Int)
  have hbn : ¬ (0 : Int) ≤ b := by omega
  have hbd : decide ((0 : Int) ≤ b) = false := decide_eq_false hbn
  have HN : Hid (NoTake c s.zs 0) := Lib.hid (Or.inr ⟨0, rfl, by decide, HT.out.a0⟩)
  clear hT
  go_enter Try.func10, Try.ntmps10
  have hBk := Blk.new w #[.int .u8 2, .int .i64 0, .int .i64 b] 36
  have HBk := Lib.hid hBk
  have HT0 := Lib.hid (HT.out.later (below_new w (.cells #[.int .u8 2, .int .i64 0, .int .i64 b] 36)))
  have HTo0 : Hid (Touch (XC p q) w (w.alloc (.cells #[.int .u8 2, .int .i64 0, .int .i64 b] 36))) := Lib.hid (Touch.of_below (below_new w _))
  have HTn : Hid (∀ n, Two ((w.alloc (.cells #[.int .u8 2, .int .i64 0, .int .i64 b] 36)).drewN n) p c s q ([] : List Nat) lb) := Lib.hid (fun n => HT0.out.later (Drw.new ⟨n, rfl⟩))
  have HBkn : Hid (∀ n, Blk ((w.alloc (.cells #[.int .u8 2, .int .i64 0, .int .i64 b] 36)).drewN n) w.heap.size #[.int .u8 2, .int .i64 0, .int .i64 b] 36) := Lib.hid (fun n => HBk.out.drewN n)
  have HTon : Hid (∀ n, Touch (XC p q) w ((w.alloc (.cells #[.int .u8 2, .int .i64 0, .int .i64 b] 36)).drewN n)) := Lib.hid (fun n => HTo0.out.drewN n)
  have x0 := hBk.cell 0 rfl
  have x1 := hBk.cell 1 rfl
  have x2 := hBk.cell 2 rfl
  clear hBk
  go_wp2_with fail
  go_quiet (fail)
  go_wp2_with fail
  refine (rcOf0 _ _ _ _ _ (HTn.out _).ch).mono ?_
  rintro e w1 ⟨⟨a, cap, rfl, hr, hro⟩, hw⟩
  have HT1 : Hid (Two w1 p c s q ([] : List Nat) lb) := Lib.hid (hw ▸ HTn.out _)
  have HBk1 : Hid (Blk w1 w.heap.size #[.int .u8 2, .int .i64 0, .int .i64 b] 36) := Lib.hid (hw ▸ HBkn.out _)
  have HTo1 : Hid (Touch (XC p q) w w1) := Lib.hid (hw ▸ HTon.out _)
  rw [hw] at hr
  have HR := Lib.hid hr
  have HRO := Lib.hid hro
  clear hw hr hro x0 x1 x2
  have y0 := HBk1.out.cell 0 rfl
  have y1 := HBk1.out.cell 1 rfl
  have y2 := HBk1.out.cell 2 rfl
  go_wp2_with fail
  refine (gmeter_any p c s _ HT1.out.gr).mono ?_
  rintro e w2 ⟨rfl, rfl⟩
  go_wp2_with fail
  refine (F.take_no p c s 0 _ HT1.out.gr HN.out).mono ?_
  rintro e w6 ⟨m, rfl, hG6, hm0, hm1, ht6⟩
  obtain ⟨d, hd0, hd1, hdw⟩ := meter_d hm0 (by omega)
  have HG6 := Lib.hid hG6
  have HC6 := Lib.hid (HT1.out.ch.touch ht6 (fun i hi => Or.inr hi) (fun hi => HT.out.out (Or.inr hi)))
  have HTo6 : Hid (Touch (XC p q) w w6) := Lib.hid (HTo1.out.trans (ht6.mono (fun i _ hi => Or.inr hi)))
  have hd16 : (d : Int) ≤ 16 := by omega
  clear hG6 ht6 hm0 hm1 hd0 hd1
  go_wp2_with fail
  refine (gmeter_any p c _ _ HG6.out).mono ?_
  rintro e w7 ⟨rfl, rfl⟩
  go_wp2_with fail
  go_ret
  exact ⟨ret_bool (by first | rfl | (simp; done) | (simp; omega)), _, ([] : List Nat), lb, ⟨HG6.out, HC6.out, HT.out.out, HT.out.a0, HT.out.a1, HT.out.dj⟩, by omega, HTo6.out⟩

set_option maxRecDepth 100000 in
set_option maxHeartbeats 2000000 in
theorem do_te0any (F : ChainFns) (p : Pl) (c : Cf) (s : St) (q : Nat) (b : Int) (lb : List Nat) (w : World) (hT : Two w p c s q ([] : List Nat) lb) (hl : ([] : List Nat).length + lb.length ≤ 9000) (hb : 0 ≤ b) :
    Calls Try.prog 10 #[.pointer (some ⟨p.a, 0, none⟩), .pointer (some ⟨q, 0, none⟩), .agg #[.int .u8 2, .int .i64 0, .int .i64 b]] w (DoPost w p c q ([] : List Nat) lb) := by
  have HT := Lib.hid hT
  have hfd := conf_field0 (c.N : Int) (c.W : Int) (c.R : Int) (c.K : Int)
  have HN : Hid (NoTake c s.zs 0) := Lib.hid (Or.inr ⟨0, rfl, by decide, HT.out.a0⟩)
  clear hT
  go_enter Try.func10, Try.ntmps10
  have hBk := Blk.new w #[.int .u8 2, .int .i64 0, .int .i64 b] 36
  have HBk := Lib.hid hBk
  have HT0 := Lib.hid (HT.out.later (below_new w (.cells #[.int .u8 2, .int .i64 0, .int .i64 b] 36)))
  have HTo0 : Hid (Touch (XC p q) w (w.alloc (.cells #[.int .u8 2, .int .i64 0, .int .i64 b] 36))) := Lib.hid (Touch.of_below (below_new w _))
  have x0 := hBk.cell 0 rfl
  have x1 := hBk.cell 1 rfl
  have x2 := hBk.cell 2 rfl
  clear hBk
  go_wp2_with fail
  go_region_held3 (fun w' => w'.cell? ⟨w.heap.size, 2, none⟩ = some (.int .i64 b)) (first | exact y2 | exact x2)
    (first | (go_at_call 22; refine (gconfV p c s _ HT0.out.drew.gr).mono ?_; rintro e w1 ⟨rfl, hb⟩; have HT1 := Lib.hid (HT0.out.drew.later hb); have HBk1 := Lib.hid (HBk.out.drew.later hb); have HTo1 : Hid (Touch (XC p q) w w1) := Lib.hid (HTo0.out.trans (Touch.of_below (below_undrew' hb))); have y2 := HBk1.out.cell 2 rfl; clear hb))
  clear x0 x1 x2 y2
  have y0 := HBk1.out.cell 0 rfl
  have y1 := HBk1.out.cell 1 rfl
  have y2 := HBk1.out.cell 2 rfl
  go_wp2_with fail
  refine (rcOf0 _ _ _ _ _ HT1.out.ch).mono ?_
  rintro e w2 ⟨⟨a, cap, rfl, hr, hro⟩, rfl⟩
  have HR := Lib.hid hr
  have HRO := Lib.hid hro
  clear hr hro
  go_wp2_with fail
  refine (gmeter_any p c s _ HT1.out.gr).mono ?_
  rintro e w2 ⟨rfl, rfl⟩
  go_wp2_with fail
  refine (F.take_no p c s 0 _ HT1.out.gr HN.out).mono ?_
  rintro e w6 ⟨m, rfl, hG6, hm0, hm1, ht6⟩
  obtain ⟨d, hd0, hd1, hdw⟩ := meter_d hm0 (by omega)
  have HG6 := Lib.hid hG6
  have HC6 := Lib.hid (HT1.out.ch.touch ht6 (fun i hi => Or.inr hi) (fun hi => HT.out.out (Or.inr hi)))
  have HTo6 : Hid (Touch (XC p q) w w6) := Lib.hid (HTo1.out.trans (ht6.mono (fun i _ hi => Or.inr hi)))
  have hd16 : (d : Int) ≤ 16 := by omega
  clear hG6 ht6 hm0 hm1 hd0 hd1
  go_wp2_with fail
  refine (gmeter_any p c _ _ HG6.out).mono ?_
  rintro e w7 ⟨rfl, rfl⟩
  go_wp2_with fail
  go_ret
  exact ⟨ret_bool (by first | rfl | (simp; done) | (simp; omega)), _, ([] : List Nat), lb, ⟨HG6.out, HC6.out, HT.out.out, HT.out.a0, HT.out.a1, HT.out.dj⟩, by omega, HTo6.out⟩

set_option maxRecDepth 100000 in
set_option maxHeartbeats 2000000 in
theorem do_te1neg (F : ChainFns) (p : Pl) (c : Cf) (s : St) (q : Nat) (b : Int) (la : List Nat) (w : World) (hT : Two w p c s q la ([] : List Nat)) (hl : la.length + ([] : List Nat).length ≤ 9000) (hb : b < 0) :
    Calls Try.prog 10 #[.pointer (some ⟨p.a, 0, none⟩), .pointer (some ⟨q, 0, none⟩), .agg #[.int .u8 2, .int .i64 1, .int .i64 b]] w (DoPost w p c q la ([] : List Nat)) := by
  have HT := Lib.hid hT
  have hfd := conf_field0 (c.N : Int) (c.W : Int) (c.R : Int) (c.K : Int)
  have hbn : ¬ (0 : Int) ≤ b := by omega
  have hbd : decide ((0 : Int) ≤ b) = false := decide_eq_false hbn
  have HN : Hid (NoTake c s.zs 1) := Lib.hid (Or.inr ⟨1, rfl, by decide, HT.out.a1⟩)
  clear hT
  go_enter Try.func10, Try.ntmps10
  have hBk := Blk.new w #[.int .u8 2, .int .i64 1, .int .i64 b] 36
  have HBk := Lib.hid hBk
  have HT0 := Lib.hid (HT.out.later (below_new w (.cells #[.int .u8 2, .int .i64 1, .int .i64 b] 36)))
  have HTo0 : Hid (Touch (XC p q) w (w.alloc (.cells #[.int .u8 2, .int .i64 1, .int .i64 b] 36))) := Lib.hid (Touch.of_below (below_new w _))
  have HTn : Hid (∀ n, Two ((w.alloc (.cells #[.int .u8 2, .int .i64 1, .int .i64 b] 36)).drewN n) p c s q la ([] : List Nat)) := Lib.hid (fun n => HT0.out.later (Drw.new ⟨n, rfl⟩))
  have HBkn : Hid (∀ n, Blk ((w.alloc (.cells #[.int .u8 2, .int .i64 1, .int .i64 b] 36)).drewN n) w.heap.size #[.int .u8 2, .int .i64 1, .int .i64 b] 36) := Lib.hid (fun n => HBk.out.drewN n)
  have HTon : Hid (∀ n, Touch (XC p q) w ((w.alloc (.cells #[.int .u8 2, .int .i64 1, .int .i64 b] 36)).drewN n)) := Lib.hid (fun n => HTo0.out.drewN n)
  have x0 := hBk.cell 0 rfl
  have x1 := hBk.cell 1 rfl
  have x2 := hBk.cell 2 rfl
  clear hBk
  go_wp2_with fail
  go_quiet (fail)
  go_wp2_with fail
  refine (rcOf1 _ _ _ _ _ (HTn.out _).ch).mono ?_
  rintro e w1 ⟨⟨a, cap, rfl, hr, hro⟩, hw⟩
  have HT1 : Hid (Two w1 p c s q la ([] : List Nat)) := Lib.hid (hw ▸ HTn.out _)
  have HBk1 : Hid (Blk w1 w.heap.size #[.int .u8 2, .int .i64 1, .int .i64 b] 36) := Lib.hid (hw ▸ HBkn.out _)
  have HTo1 : Hid (Touch (XC p q) w w1) := Lib.hid (hw ▸ HTon.out _)
  rw [hw] at hr
  have HR := Lib.hid hr
  have HRO := Lib.hid hro
  clear hw hr hro x0 x1 x2
  have y0 := HBk1.out.cell 0 rfl
  have y1 := HBk1.out.cell 1 rfl
  have y2 := HBk1.out.cell 2 rfl
  go_wp2_with fail
  refine (gmeter_any p c s _ HT1.out.gr).mono ?_
  rintro e w2 ⟨rfl, rfl⟩
  go_wp2_with fail
  refine (F.take_no p c s 1 _ HT1.out.gr HN.out).mono ?_
  rintro e w6 ⟨m, rfl, hG6, hm0, hm1, ht6⟩
  obtain ⟨d, hd0, hd1, hdw⟩ := meter_d hm0 (by omega)
  have HG6 := Lib.hid hG6
  have HC6 := Lib.hid (HT1.out.ch.touch ht6 (fun i hi => Or.inr hi) (fun hi => HT.out.out (Or.inr hi)))
  have HTo6 : Hid (Touch (XC p q) w w6) := Lib.hid (HTo1.out.trans (ht6.mono (fun i _ hi => Or.inr hi)))
  have hd16 : (d : Int) ≤ 16 := by omega
  clear hG6 ht6 hm0 hm1 hd0 hd1
  go_wp2_with fail
  refine (gmeter_any p c _ _ HG6.out).mono ?_
  rintro e w7 ⟨rfl, rfl⟩
  go_wp2_with fail
  go_ret
  exact ⟨ret_bool (by first | rfl | (simp; done) | (simp; omega)), _, la, ([] : List Nat), ⟨HG6.out, HC6.out, HT.out.out, HT.out.a0, HT.out.a1, HT.out.dj⟩, by omega, HTo6.out⟩

set_option maxRecDepth 100000 in
set_option maxHeartbeats 2000000 in
theorem do_te1any (F : ChainFns) (p : Pl) (c : Cf) (s : St) (q : Nat) (b : Int) (la : List Nat) (w : World) (hT : Two w p c s q la ([] : List Nat)) (hl : la.length + ([] : List Nat).length ≤ 9000) (hb : 0 ≤ b) :
    Calls Try.prog 10 #[.pointer (some ⟨p.a, 0, none⟩), .pointer (some ⟨q, 0, none⟩), .agg #[.int .u8 2, .int .i64 1, .int .i64 b]] w (DoPost w p c q la ([] : List Nat)) := by
  have HT := Lib.hid hT
  have hfd := conf_field0 (c.N : Int) (c.W : Int) (c.R : Int) (c.K : Int)
  have HN : Hid (NoTake c s.zs 1) := Lib.hid (Or.inr ⟨1, rfl, by decide, HT.out.a1⟩)
  clear hT
  go_enter Try.func10, Try.ntmps10
  have hBk := Blk.new w #[.int .u8 2, .int .i64 1, .int .i64 b] 36
  have HBk := Lib.hid hBk
  have HT0 := Lib.hid (HT.out.later (below_new w (.cells #[.int .u8 2, .int .i64 1, .int .i64 b] 36)))
  have HTo0 : Hid (Touch (XC p q) w (w.alloc (.cells #[.int .u8 2, .int .i64 1, .int .i64 b] 36))) := Lib.hid (Touch.of_below (below_new w _))
  have x0 := hBk.cell 0 rfl
  have x1 := hBk.cell 1 rfl
  have x2 := hBk.cell 2 rfl
  clear hBk
  go_wp2_with fail
  go_region_held3 (fun w' => w'.cell? ⟨w.heap.size, 2, none⟩ = some (.int .i64 b)) (first | exact y2 | exact x2)
    (first | (go_at_call 22; refine (gconfV p c s _ HT0.out.drew.gr).mono ?_; rintro e w1 ⟨rfl, hb⟩; have HT1 := Lib.hid (HT0.out.drew.later hb); have HBk1 := Lib.hid (HBk.out.drew.later hb); have HTo1 : Hid (Touch (XC p q) w w1) := Lib.hid (HTo0.out.trans (Touch.of_below (below_undrew' hb))); have y2 := HBk1.out.cell 2 rfl; clear hb))
  clear x0 x1 x2 y2
  have y0 := HBk1.out.cell 0 rfl
  have y1 := HBk1.out.cell 1 rfl
  have y2 := HBk1.out.cell 2 rfl
  go_wp2_with fail
  refine (rcOf1 _ _ _ _ _ HT1.out.ch).mono ?_
  rintro e w2 ⟨⟨a, cap, rfl, hr, hro⟩, rfl⟩
  have HR := Lib.hid hr
  have HRO := Lib.hid hro
  clear hr hro
  go_wp2_with fail
  refine (gmeter_any p c s _ HT1.out.gr).mono ?_
  rintro e w2 ⟨rfl, rfl⟩
  go_wp2_with fail
  refine (F.take_no p c s 1 _ HT1.out.gr HN.out).mono ?_
  rintro e w6 ⟨m, rfl, hG6, hm0, hm1, ht6⟩
  obtain ⟨d, hd0, hd1, hdw⟩ := meter_d hm0 (by omega)
  have HG6 := Lib.hid hG6
  have HC6 := Lib.hid (HT1.out.ch.touch ht6 (fun i hi => Or.inr hi) (fun hi => HT.out.out (Or.inr hi)))
  have HTo6 : Hid (Touch (XC p q) w w6) := Lib.hid (HTo1.out.trans (ht6.mono (fun i _ hi => Or.inr hi)))
  have hd16 : (d : Int) ≤ 16 := by omega
  clear hG6 ht6 hm0 hm1 hd0 hd1
  go_wp2_with fail
  refine (gmeter_any p c _ _ HG6.out).mono ?_
  rintro e w7 ⟨rfl, rfl⟩
  go_wp2_with fail
  go_ret
  exact ⟨ret_bool (by first | rfl | (simp; done) | (simp; omega)), _, la, ([] : List Nat), ⟨HG6.out, HC6.out, HT.out.out, HT.out.a0, HT.out.a1, HT.out.dj⟩, by omega, HTo6.out⟩

end Go.Proofs.Yticlidpdmonijaa.Pk
