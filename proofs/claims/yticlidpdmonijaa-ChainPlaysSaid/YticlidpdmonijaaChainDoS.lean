/-
  An act on a chain: the block stands in one.
-/
import Derived.Test.YticlidpdmonijaaChainDo
import Derived.Deep.RegionHeld3
import Derived.BigQuiet
namespace Go.Proofs.Yticlidpdmonijaa.Pk
open Go.RowKit
set_option linter.unusedVariables false
set_option linter.unusedSimpArgs false

set_option maxRecDepth 100000 in
set_option maxHeartbeats 2000000 in
theorem do_s00 (F : ChainFns) (p : Pl) (c : Cf) (s : St) (q : Nat) (b : Nat) (la lb : List Nat) (w : World) (hT : Two w p c s q la lb) (hl : la.length + lb.length ≤ 9000) (hb : b < c.N) (h1 : b ∈ la ∨ b ∈ lb) :
    Calls Try.prog 10 #[.pointer (some ⟨p.a, 0, none⟩), .pointer (some ⟨q, 0, none⟩), .agg #[.int .u8 0, .int .i64 0, .int .i64 (b : Int)]] w (DoPost w p c q la lb) := by
  have hst : decide (b ∈ la ∨ b ∈ lb) = true := decide_eq_true h1
  have HST := Lib.hid hst
  clear hst h1
  have HT := Lib.hid hT
  have hfd := conf_field0 (c.N : Int) (c.W : Int) (c.R : Int) (c.K : Int)
  have hN0 : (0 : Int) ≤ (b : Int) := by omega
  have hN1 : (b : Int) < (c.N : Int) := by omega
  clear hT
  go_enter Try.func10, Try.ntmps10
  have hBk := Blk.new w #[.int .u8 0, .int .i64 0, .int .i64 (b : Int)] 36
  have HBk := Lib.hid hBk
  have HT0 := Lib.hid (HT.out.later (below_new w (.cells #[.int .u8 0, .int .i64 0, .int .i64 (b : Int)] 36)))
  have HTo0 : Hid (Touch (XC p q) w (w.alloc (.cells #[.int .u8 0, .int .i64 0, .int .i64 (b : Int)] 36))) := Lib.hid (Touch.of_below (below_new w _))
  have x0 := hBk.cell 0 rfl
  have x1 := hBk.cell 1 rfl
  have x2 := hBk.cell 2 rfl
  clear hBk
  go_wp2_with fail
  go_region_held3 (fun w' => w'.cell? ⟨w.heap.size, 2, none⟩ = some (.int .i64 (b : Int))) (first | exact y2 | exact x2)
    (first | (go_at_call 22; refine (gconfV p c s _ HT0.out.drew.gr).mono ?_; rintro e w1 ⟨rfl, hb⟩; have HT1 := Lib.hid (HT0.out.drew.later hb); have HBk1 := Lib.hid (HBk.out.drew.later hb); have HTo1 : Hid (Touch (XC p q) w w1) := Lib.hid (HTo0.out.trans (Touch.of_below (below_undrew' hb))); have y2 := HBk1.out.cell 2 rfl; clear hb))
  clear x0 x1 x2 y2
  have y0 := HBk1.out.cell 0 rfl
  have y1 := HBk1.out.cell 1 rfl
  have y2 := HBk1.out.cell 2 rfl
  go_wp2_with fail
  refine (rcOf0 _ _ _ _ _ HT1.out.ch).mono ?_
  rintro e w2 ⟨⟨a, cap, rfl, hr, hro⟩, rfl⟩
  have HR := Lib.hid hr
  have HRO := Lib.hid hro
  clear hr hro
  go_wp2_with fail
  refine (gmeter_any p c s _ HT1.out.gr).mono ?_
  rintro e w2 ⟨rfl, rfl⟩
  go_wp2_with fail
  refine (rcStands_any _ _ _ _ _ _ HT1.out.ch (by omega) (by omega)).mono ?_
  rw [HST.out]
  rintro e w2 ⟨rfl, rfl⟩
  go_wp2_with fail
  go_ret
  exact ⟨rfl, s, la, lb, HT1.out, by omega, HTo1.out⟩

set_option maxRecDepth 100000 in
set_option maxHeartbeats 2000000 in
theorem do_s01 (F : ChainFns) (p : Pl) (c : Cf) (s : St) (q : Nat) (b : Nat) (la lb : List Nat) (w : World) (hT : Two w p c s q la lb) (hl : la.length + lb.length ≤ 9000) (hb : b < c.N) (h1 : b ∈ la ∨ b ∈ lb) :
    Calls Try.prog 10 #[.pointer (some ⟨p.a, 0, none⟩), .pointer (some ⟨q, 0, none⟩), .agg #[.int .u8 0, .int .i64 1, .int .i64 (b : Int)]] w (DoPost w p c q la lb) := by
  have hst : decide (b ∈ la ∨ b ∈ lb) = true := decide_eq_true h1
  have HST := Lib.hid hst
  clear hst h1
  have HT := Lib.hid hT
  have hfd := conf_field0 (c.N : Int) (c.W : Int) (c.R : Int) (c.K : Int)
  have hN0 : (0 : Int) ≤ (b : Int) := by omega
  have hN1 : (b : Int) < (c.N : Int) := by omega
  clear hT
  go_enter Try.func10, Try.ntmps10
  have hBk := Blk.new w #[.int .u8 0, .int .i64 1, .int .i64 (b : Int)] 36
  have HBk := Lib.hid hBk
  have HT0 := Lib.hid (HT.out.later (below_new w (.cells #[.int .u8 0, .int .i64 1, .int .i64 (b : Int)] 36)))
  have HTo0 : Hid (Touch (XC p q) w (w.alloc (.cells #[.int .u8 0, .int .i64 1, .int .i64 (b : Int)] 36))) := Lib.hid (Touch.of_below (below_new w _))
  have x0 := hBk.cell 0 rfl
  have x1 := hBk.cell 1 rfl
  have x2 := hBk.cell 2 rfl
  clear hBk
  go_wp2_with fail
  go_region_held3 (fun w' => w'.cell? ⟨w.heap.size, 2, none⟩ = some (.int .i64 (b : Int))) (first | exact y2 | exact x2)
    (first | (go_at_call 22; refine (gconfV p c s _ HT0.out.drew.gr).mono ?_; rintro e w1 ⟨rfl, hb⟩; have HT1 := Lib.hid (HT0.out.drew.later hb); have HBk1 := Lib.hid (HBk.out.drew.later hb); have HTo1 : Hid (Touch (XC p q) w w1) := Lib.hid (HTo0.out.trans (Touch.of_below (below_undrew' hb))); have y2 := HBk1.out.cell 2 rfl; clear hb))
  clear x0 x1 x2 y2
  have y0 := HBk1.out.cell 0 rfl
  have y1 := HBk1.out.cell 1 rfl
  have y2 := HBk1.out.cell 2 rfl
  go_wp2_with fail
  refine (rcOf1 _ _ _ _ _ HT1.out.ch).mono ?_
  rintro e w2 ⟨⟨a, cap, rfl, hr, hro⟩, rfl⟩
  have HR := Lib.hid hr
  have HRO := Lib.hid hro
  clear hr hro
  go_wp2_with fail
  refine (gmeter_any p c s _ HT1.out.gr).mono ?_
  rintro e w2 ⟨rfl, rfl⟩
  go_wp2_with fail
  refine (rcStands_any _ _ _ _ _ _ HT1.out.ch (by omega) (by omega)).mono ?_
  rw [HST.out]
  rintro e w2 ⟨rfl, rfl⟩
  go_wp2_with fail
  go_ret
  exact ⟨rfl, s, la, lb, HT1.out, by omega, HTo1.out⟩

set_option maxRecDepth 100000 in
set_option maxHeartbeats 2000000 in
theorem do_s10 (F : ChainFns) (p : Pl) (c : Cf) (s : St) (q : Nat) (b : Nat) (la lb : List Nat) (w : World) (hT : Two w p c s q la lb) (hl : la.length + lb.length ≤ 9000) (hb : b < c.N) (h1 : b ∈ la ∨ b ∈ lb) :
    Calls Try.prog 10 #[.pointer (some ⟨p.a, 0, none⟩), .pointer (some ⟨q, 0, none⟩), .agg #[.int .u8 1, .int .i64 0, .int .i64 (b : Int)]] w (DoPost w p c q la lb) := by
  have hst : decide (b ∈ la ∨ b ∈ lb) = true := decide_eq_true h1
  have HST := Lib.hid hst
  clear hst h1
  have HT := Lib.hid hT
  have hfd := conf_field0 (c.N : Int) (c.W : Int) (c.R : Int) (c.K : Int)
  have hN0 : (0 : Int) ≤ (b : Int) := by omega
  have hN1 : (b : Int) < (c.N : Int) := by omega
  clear hT
  go_enter Try.func10, Try.ntmps10
  have hBk := Blk.new w #[.int .u8 1, .int .i64 0, .int .i64 (b : Int)] 36
  have HBk := Lib.hid hBk
  have HT0 := Lib.hid (HT.out.later (below_new w (.cells #[.int .u8 1, .int .i64 0, .int .i64 (b : Int)] 36)))
  have HTo0 : Hid (Touch (XC p q) w (w.alloc (.cells #[.int .u8 1, .int .i64 0, .int .i64 (b : Int)] 36))) := Lib.hid (Touch.of_below (below_new w _))
  have x0 := hBk.cell 0 rfl
  have x1 := hBk.cell 1 rfl
  have x2 := hBk.cell 2 rfl
  clear hBk
  go_wp2_with fail
  go_region_held3 (fun w' => w'.cell? ⟨w.heap.size, 2, none⟩ = some (.int .i64 (b : Int))) (first | exact y2 | exact x2)
    (first | (go_at_call 22; refine (gconfV p c s _ HT0.out.drew.gr).mono ?_; rintro e w1 ⟨rfl, hb⟩; have HT1 := Lib.hid (HT0.out.drew.later hb); have HBk1 := Lib.hid (HBk.out.drew.later hb); have HTo1 : Hid (Touch (XC p q) w w1) := Lib.hid (HTo0.out.trans (Touch.of_below (below_undrew' hb))); have y2 := HBk1.out.cell 2 rfl; clear hb))
  clear x0 x1 x2 y2
  have y0 := HBk1.out.cell 0 rfl
  have y1 := HBk1.out.cell 1 rfl
  have y2 := HBk1.out.cell 2 rfl
  go_wp2_with fail
  refine (rcOf0 _ _ _ _ _ HT1.out.ch).mono ?_
  rintro e w2 ⟨⟨a, cap, rfl, hr, hro⟩, rfl⟩
  have HR := Lib.hid hr
  have HRO := Lib.hid hro
  clear hr hro
  go_wp2_with fail
  refine (gmeter_any p c s _ HT1.out.gr).mono ?_
  rintro e w2 ⟨rfl, rfl⟩
  go_wp2_with fail
  refine (rcStands_any _ _ _ _ _ _ HT1.out.ch (by omega) (by omega)).mono ?_
  rw [HST.out]
  rintro e w2 ⟨rfl, rfl⟩
  go_wp2_with fail
  go_ret
  exact ⟨rfl, s, la, lb, HT1.out, by omega, HTo1.out⟩

set_option maxRecDepth 100000 in
set_option maxHeartbeats 2000000 in
theorem do_s11 (F : ChainFns) (p : Pl) (c : Cf) (s : St) (q : Nat) (b : Nat) (la lb : List Nat) (w : World) (hT : Two w p c s q la lb) (hl : la.length + lb.length ≤ 9000) (hb : b < c.N) (h1 : b ∈ la ∨ b ∈ lb) :
    Calls Try.prog 10 #[.pointer (some ⟨p.a, 0, none⟩), .pointer (some ⟨q, 0, none⟩), .agg #[.int .u8 1, .int .i64 1, .int .i64 (b : Int)]] w (DoPost w p c q la lb) := by
  have hst : decide (b ∈ la ∨ b ∈ lb) = true := decide_eq_true h1
  have HST := Lib.hid hst
  clear hst h1
  have HT := Lib.hid hT
  have hfd := conf_field0 (c.N : Int) (c.W : Int) (c.R : Int) (c.K : Int)
  have hN0 : (0 : Int) ≤ (b : Int) := by omega
  have hN1 : (b : Int) < (c.N : Int) := by omega
  clear hT
  go_enter Try.func10, Try.ntmps10
  have hBk := Blk.new w #[.int .u8 1, .int .i64 1, .int .i64 (b : Int)] 36
  have HBk := Lib.hid hBk
  have HT0 := Lib.hid (HT.out.later (below_new w (.cells #[.int .u8 1, .int .i64 1, .int .i64 (b : Int)] 36)))
  have HTo0 : Hid (Touch (XC p q) w (w.alloc (.cells #[.int .u8 1, .int .i64 1, .int .i64 (b : Int)] 36))) := Lib.hid (Touch.of_below (below_new w _))
  have x0 := hBk.cell 0 rfl
  have x1 := hBk.cell 1 rfl
  have x2 := hBk.cell 2 rfl
  clear hBk
  go_wp2_with fail
  go_region_held3 (fun w' => w'.cell? ⟨w.heap.size, 2, none⟩ = some (.int .i64 (b : Int))) (first | exact y2 | exact x2)
    (first | (go_at_call 22; refine (gconfV p c s _ HT0.out.drew.gr).mono ?_; rintro e w1 ⟨rfl, hb⟩; have HT1 := Lib.hid (HT0.out.drew.later hb); have HBk1 := Lib.hid (HBk.out.drew.later hb); have HTo1 : Hid (Touch (XC p q) w w1) := Lib.hid (HTo0.out.trans (Touch.of_below (below_undrew' hb))); have y2 := HBk1.out.cell 2 rfl; clear hb))
  clear x0 x1 x2 y2
  have y0 := HBk1.out.cell 0 rfl
  have y1 := HBk1.out.cell 1 rfl
  have y2 := HBk1.out.cell 2 rfl
  go_wp2_with fail
  refine (rcOf1 _ _ _ _ _ HT1.out.ch).mono ?_
  rintro e w2 ⟨⟨a, cap, rfl, hr, hro⟩, rfl⟩
  have HR := Lib.hid hr
  have HRO := Lib.hid hro
  clear hr hro
  go_wp2_with fail
  refine (gmeter_any p c s _ HT1.out.gr).mono ?_
  rintro e w2 ⟨rfl, rfl⟩
  go_wp2_with fail
  refine (rcStands_any _ _ _ _ _ _ HT1.out.ch (by omega) (by omega)).mono ?_
  rw [HST.out]
  rintro e w2 ⟨rfl, rfl⟩
  go_wp2_with fail
  go_ret
  exact ⟨rfl, s, la, lb, HT1.out, by omega, HTo1.out⟩

end Go.Proofs.Yticlidpdmonijaa.Pk
