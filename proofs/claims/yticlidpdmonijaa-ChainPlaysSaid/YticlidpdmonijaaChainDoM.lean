/-
  An act on a chain: a look at an empty one, or at none.
-/
import Derived.Test.YticlidpdmonijaaChainDo
import Derived.Deep.RegionHeld3
import Derived.BigQuiet
namespace Go.Proofs.Yticlidpdmonijaa.Pk
open Go.RowKit
set_option linter.unusedVariables false
set_option linter.unusedSimpArgs false

set_option maxRecDepth 100000 in
set_option maxHeartbeats 2000000 in
theorem do_le0any (F : ChainFns) (p : Pl) (c : Cf) (s : St) (q : Nat) (kd b : Int) (lb : List Nat) (w : World) (hT : Two w p c s q ([] : List Nat) lb) (hl : ([] : List Nat).length + lb.length ≤ 9000) (g0 : (kd == 0) = false) (g1 : (kd == 1) = false) (g2 : (kd == 2) = false) (hb : 0 ≤ b) :
    Calls Try.prog 10 #[.pointer (some ⟨p.a, 0, none⟩), .pointer (some ⟨q, 0, none⟩), .agg #[.int .u8 kd, .int .i64 0, .int .i64 b]] w (DoPost w p c q ([] : List Nat) lb) := by
  have HIn : Hid (∀ w' a b ca cb, Row w' .i64 a (ints []) → Row w' .i64 b (ints []) → Calls Try.prog 20 #[.slice a 0 ca, .slice b 0 cb] w' fun e w'' => e = .returned (.bool true) ∧ Drw w' w'') := Lib.hid (fun w' a b ca cb h1 h2 => by
    have := rcInts_same a b ca cb (ints []) w' h1 h2 (by simp [ints])
    rw [ints_length] at this
    exact this)
  have HT := Lib.hid hT
  have hfd := conf_field0 (c.N : Int) (c.W : Int) (c.R : Int) (c.K : Int)
  have HN : Hid (NoTake c s.zs 0) := Lib.hid (Or.inr ⟨0, rfl, by decide, HT.out.a0⟩)
  clear hT
  go_enter Try.func10, Try.ntmps10
  have hBk := Blk.new w #[.int .u8 kd, .int .i64 0, .int .i64 b] 36
  have HBk := Lib.hid hBk
  have HT0 := Lib.hid (HT.out.later (below_new w (.cells #[.int .u8 kd, .int .i64 0, .int .i64 b] 36)))
  have HTo0 : Hid (Touch (XC p q) w (w.alloc (.cells #[.int .u8 kd, .int .i64 0, .int .i64 b] 36))) := Lib.hid (Touch.of_below (below_new w _))
  have x0 := hBk.cell 0 rfl
  have x1 := hBk.cell 1 rfl
  have x2 := hBk.cell 2 rfl
  clear hBk
  go_wp2_with fail
  go_region_held3 (fun w' => w'.cell? ⟨w.heap.size, 2, none⟩ = some (.int .i64 b)) (first | exact y2 | exact x2)
    (first | (go_at_call 22; refine (gconfV p c s _ HT0.out.drew.gr).mono ?_; rintro e w1 ⟨rfl, hb⟩; have HT1 := Lib.hid (HT0.out.drew.later hb); have HBk1 := Lib.hid (HBk.out.drew.later hb); have HTo1 : Hid (Touch (XC p q) w w1) := Lib.hid (HTo0.out.trans (Touch.of_below (below_undrew' hb))); have y2 := HBk1.out.cell 2 rfl; clear hb))
  clear x0 x1 x2 y2
  have y0 := HBk1.out.cell 0 rfl
  have y1 := HBk1.out.cell 1 rfl
  have y2 := HBk1.out.cell 2 rfl
  go_wp2_with fail
  refine (rcOf0 _ _ _ _ _ HT1.out.ch).mono ?_
  rintro e w2 ⟨⟨a, cap, rfl, hr, hro⟩, rfl⟩
  have HR := Lib.hid hr
  have HRO := Lib.hid hro
  clear hr hro
  go_wp2_with fail
  refine (gmeter_any p c s _ HT1.out.gr).mono ?_
  rintro e w2 ⟨rfl, rfl⟩
  go_wp2_with fail
  refine (F.first_no p c s 0 _ HT1.out.gr HN.out).mono ?_
  rintro e w6 ⟨m, rfl, hG6, hm0, hm1, ht6⟩
  have HG6 := Lib.hid hG6
  have HC6 := Lib.hid (HT1.out.ch.touch ht6 (fun i hi => Or.inr hi) (fun hi => HT.out.out (Or.inr hi)))
  have HBk6 := Lib.hid (HBk1.out.touch ht6 (fun hi => fresh_not HT.out (Or.inr hi)))
  have HR6 := Lib.hid (HR.out.touch ht6 (HRO.out.mono (fun i hi => Or.inr hi)))
  have HTo6 : Hid (Touch (XC p q) w w6) := Lib.hid (HTo1.out.trans (ht6.mono (fun i _ hi => Or.inr hi)))
  clear hG6 ht6 y0 y1 y2
  have y1 := HBk6.out.cell 1 rfl
  go_wp2_with fail
  refine (F.len_yes p c ⟨s.zs, m⟩ 0 ([] : List Nat) _ HG6.out HT.out.a0 (by decide)).mono ?_
  rintro e w7 ⟨m7, rfl, hG7, hm2, hm3, ht7⟩
  have hm2' : m ≤ m7 := hm2
  have hm3' : m7 ≤ m + 16 := hm3
  obtain ⟨d, hd0, hd1, hdw⟩ := meter_d (m := s.m) (m' := m7) (by omega) (by omega)
  have HG7 := Lib.hid hG7
  have HC7 := Lib.hid (HC6.out.touch ht7 (fun i hi => Or.inr hi) (fun hi => HT.out.out (Or.inr hi)))
  have HBk7 := Lib.hid (HBk6.out.touch ht7 (fun hi => fresh_not HT.out (Or.inr hi)))
  have HR7 := Lib.hid (HR6.out.touch ht7 (HRO.out.mono (fun i hi => Or.inr hi)))
  have HTo7 : Hid (Touch (XC p q) w w7) := Lib.hid (HTo6.out.trans (ht7.mono (fun i _ hi => Or.inr hi)))
  have hd32 : (d : Int) ≤ 32 := by omega
  clear hG7 ht7 hm0 hm1 hm2 hm3 hm2' hm3' hd0 hd1 y1
  have y1 := HBk7.out.cell 1 rfl
  go_wp2_with fail
  refine (gmeter_any p c _ _ HG7.out).mono ?_
  rintro e w8 ⟨rfl, rfl⟩
  go_wp2_with fail
  refine (gmeter_any p c _ _ HG7.out).mono ?_
  rintro e w8 ⟨rfl, rfl⟩
  go_wp2_with fail
  refine (F.list_yes p c ⟨s.zs, m7⟩ 0 ([] : List Nat) _ HG7.out HT.out.a0 (by decide)).mono ?_
  rintro e w8 ⟨a8, cap8, rfl, hr8, _, hb8⟩
  have HR8 := Lib.hid hr8
  have HRl8 := Lib.hid (HR7.out.later hb8)
  have HG8 := Lib.hid (HG7.out.later hb8)
  have HC8 := Lib.hid (HC7.out.later hb8)
  have HTo8 : Hid (Touch (XC p q) w w8) := Lib.hid (HTo7.out.trans (Touch.of_below hb8))
  clear hr8 hb8
  go_wp2_with fail
  refine (HIn.out _ _ _ _ _ HR8.out HRl8.out).mono ?_
  rintro e w9 ⟨rfl, hdr⟩
  have HG9 := Lib.hid (HG8.out.drw hdr)
  have HC9 := Lib.hid (HC8.out.later hdr.new)
  have HTo9 : Hid (Touch (XC p q) w w9) := Lib.hid (HTo8.out.trans (Touch.of_below hdr.new))
  clear hdr
  go_wp2_with fail
  refine (gmeter_any p c _ _ HG9.out).mono ?_
  rintro e w10 ⟨rfl, rfl⟩
  go_wp2_with fail
  go_ret
  exact ⟨ret_bool (by first | rfl | (simp; done) | (simp; omega)), _, ([] : List Nat), lb, ⟨HG9.out, HC9.out, HT.out.out, HT.out.a0, HT.out.a1, HT.out.dj⟩, by omega, HTo9.out⟩

set_option maxRecDepth 100000 in
set_option maxHeartbeats 2000000 in
theorem do_le0neg (F : ChainFns) (p : Pl) (c : Cf) (s : St) (q : Nat) (kd b : Int) (lb : List Nat) (w : World) (hT : Two w p c s q ([] : List Nat) lb) (hl : ([] : List Nat).length + lb.length ≤ 9000) (g0 : (kd == 0) = false) (g1 : (kd == 1) = false) (g2 : (kd == 2) = false) (hb : b < 0) :
    Calls Try.prog 10 #[.pointer (some ⟨p.a, 0, none⟩), .pointer (some ⟨q, 0, none⟩), .agg #[.int .u8 kd, .int .i64 0, .int .i64 b]] w (DoPost w p c q ([] : List Nat) lb) := by
  have HIn : Hid (∀ w' a b ca cb, Row w' .i64 a (ints []) → Row w' .i64 b (ints []) → Calls Try.prog 20 #[.slice a 0 ca, .slice b 0 cb] w' fun e w'' => e = .returned (.bool true) ∧ Drw w' w'') := Lib.hid (fun w' a b ca cb h1 h2 => by
    have := rcInts_same a b ca cb (ints []) w' h1 h2 (by simp [ints])
    rw [ints_length] at this
    exact this)
  have HT := Lib.hid hT
  have hfd := conf_field0 (c.N : Int) (c.W : Int) (c.R : Int) (c.K : Int)
  have hbn : ¬ (0 : Int) ≤ b := by omega
  have hbd : decide ((0 : Int) ≤ b) = false := decide_eq_false hbn
  have HN : Hid (NoTake c s.zs 0) := Lib.hid (Or.inr ⟨0, rfl, by decide, HT.out.a0⟩)
  clear hT
  go_enter Try.func10, Try.ntmps10
  have hBk := Blk.new w #[.int .u8 kd, .int .i64 0, .int .i64 b] 36
  have HBk := Lib.hid hBk
  have HT0 := Lib.hid (HT.out.later (below_new w (.cells #[.int .u8 kd, .int .i64 0, .int .i64 b] 36)))
  have HTo0 : Hid (Touch (XC p q) w (w.alloc (.cells #[.int .u8 kd, .int .i64 0, .int .i64 b] 36))) := Lib.hid (Touch.of_below (below_new w _))
  have HTn : Hid (∀ n, Two ((w.alloc (.cells #[.int .u8 kd, .int .i64 0, .int .i64 b] 36)).drewN n) p c s q ([] : List Nat) lb) := Lib.hid (fun n => HT0.out.later (Drw.new ⟨n, rfl⟩))
  have HBkn : Hid (∀ n, Blk ((w.alloc (.cells #[.int .u8 kd, .int .i64 0, .int .i64 b] 36)).drewN n) w.heap.size #[.int .u8 kd, .int .i64 0, .int .i64 b] 36) := Lib.hid (fun n => HBk.out.drewN n)
  have HTon : Hid (∀ n, Touch (XC p q) w ((w.alloc (.cells #[.int .u8 kd, .int .i64 0, .int .i64 b] 36)).drewN n)) := Lib.hid (fun n => HTo0.out.drewN n)
  have x0 := hBk.cell 0 rfl
  have x1 := hBk.cell 1 rfl
  have x2 := hBk.cell 2 rfl
  clear hBk
  go_wp2_with fail
  go_quiet (fail)
  go_wp2_with fail
  refine (rcOf0 _ _ _ _ _ (HTn.out _).ch).mono ?_
  rintro e w1 ⟨⟨a, cap, rfl, hr, hro⟩, hw⟩
  have HT1 : Hid (Two w1 p c s q ([] : List Nat) lb) := Lib.hid (hw ▸ HTn.out _)
  have HBk1 : Hid (Blk w1 w.heap.size #[.int .u8 kd, .int .i64 0, .int .i64 b] 36) := Lib.hid (hw ▸ HBkn.out _)
  have HTo1 : Hid (Touch (XC p q) w w1) := Lib.hid (hw ▸ HTon.out _)
  rw [hw] at hr
  have HR := Lib.hid hr
  have HRO := Lib.hid hro
  clear hw hr hro x0 x1 x2
  have y0 := HBk1.out.cell 0 rfl
  have y1 := HBk1.out.cell 1 rfl
  have y2 := HBk1.out.cell 2 rfl
  go_wp2_with fail
  refine (gmeter_any p c s _ HT1.out.gr).mono ?_
  rintro e w2 ⟨rfl, rfl⟩
  go_wp2_with fail
  refine (F.first_no p c s 0 _ HT1.out.gr HN.out).mono ?_
  rintro e w6 ⟨m, rfl, hG6, hm0, hm1, ht6⟩
  have HG6 := Lib.hid hG6
  have HC6 := Lib.hid (HT1.out.ch.touch ht6 (fun i hi => Or.inr hi) (fun hi => HT.out.out (Or.inr hi)))
  have HBk6 := Lib.hid (HBk1.out.touch ht6 (fun hi => fresh_not HT.out (Or.inr hi)))
  have HR6 := Lib.hid (HR.out.touch ht6 (HRO.out.mono (fun i hi => Or.inr hi)))
  have HTo6 : Hid (Touch (XC p q) w w6) := Lib.hid (HTo1.out.trans (ht6.mono (fun i _ hi => Or.inr hi)))
  clear hG6 ht6 y0 y1 y2
  have y1 := HBk6.out.cell 1 rfl
  go_wp2_with fail
  refine (F.len_yes p c ⟨s.zs, m⟩ 0 ([] : List Nat) _ HG6.out HT.out.a0 (by decide)).mono ?_
  rintro e w7 ⟨m7, rfl, hG7, hm2, hm3, ht7⟩
  have hm2' : m ≤ m7 := hm2
  have hm3' : m7 ≤ m + 16 := hm3
  obtain ⟨d, hd0, hd1, hdw⟩ := meter_d (m := s.m) (m' := m7) (by omega) (by omega)
  have HG7 := Lib.hid hG7
  have HC7 := Lib.hid (HC6.out.touch ht7 (fun i hi => Or.inr hi) (fun hi => HT.out.out (Or.inr hi)))
  have HBk7 := Lib.hid (HBk6.out.touch ht7 (fun hi => fresh_not HT.out (Or.inr hi)))
  have HR7 := Lib.hid (HR6.out.touch ht7 (HRO.out.mono (fun i hi => Or.inr hi)))
  have HTo7 : Hid (Touch (XC p q) w w7) := Lib.hid (HTo6.out.trans (ht7.mono (fun i _ hi => Or.inr hi)))
  have hd32 : (d : Int) ≤ 32 := by omega
  clear hG7 ht7 hm0 hm1 hm2 hm3 hm2' hm3' hd0 hd1 y1
  have y1 := HBk7.out.cell 1 rfl
  go_wp2_with fail
  refine (gmeter_any p c _ _ HG7.out).mono ?_
  rintro e w8 ⟨rfl, rfl⟩
  go_wp2_with fail
  refine (gmeter_any p c _ _ HG7.out).mono ?_
  rintro e w8 ⟨rfl, rfl⟩
  go_wp2_with fail
  refine (F.list_yes p c ⟨s.zs, m7⟩ 0 ([] : List Nat) _ HG7.out HT.out.a0 (by decide)).mono ?_
  rintro e w8 ⟨a8, cap8, rfl, hr8, _, hb8⟩
  have HR8 := Lib.hid hr8
  have HRl8 := Lib.hid (HR7.out.later hb8)
  have HG8 := Lib.hid (HG7.out.later hb8)
  have HC8 := Lib.hid (HC7.out.later hb8)
  have HTo8 : Hid (Touch (XC p q) w w8) := Lib.hid (HTo7.out.trans (Touch.of_below hb8))
  clear hr8 hb8
  go_wp2_with fail
  refine (HIn.out _ _ _ _ _ HR8.out HRl8.out).mono ?_
  rintro e w9 ⟨rfl, hdr⟩
  have HG9 := Lib.hid (HG8.out.drw hdr)
  have HC9 := Lib.hid (HC8.out.later hdr.new)
  have HTo9 : Hid (Touch (XC p q) w w9) := Lib.hid (HTo8.out.trans (Touch.of_below hdr.new))
  clear hdr
  go_wp2_with fail
  refine (gmeter_any p c _ _ HG9.out).mono ?_
  rintro e w10 ⟨rfl, rfl⟩
  go_wp2_with fail
  go_ret
  exact ⟨ret_bool (by first | rfl | (simp; done) | (simp; omega)), _, ([] : List Nat), lb, ⟨HG9.out, HC9.out, HT.out.out, HT.out.a0, HT.out.a1, HT.out.dj⟩, by omega, HTo9.out⟩

set_option maxRecDepth 100000 in
set_option maxHeartbeats 2000000 in
theorem do_le1any (F : ChainFns) (p : Pl) (c : Cf) (s : St) (q : Nat) (kd b : Int) (la : List Nat) (w : World) (hT : Two w p c s q la ([] : List Nat)) (hl : la.length + ([] : List Nat).length ≤ 9000) (g0 : (kd == 0) = false) (g1 : (kd == 1) = false) (g2 : (kd == 2) = false) (hb : 0 ≤ b) :
    Calls Try.prog 10 #[.pointer (some ⟨p.a, 0, none⟩), .pointer (some ⟨q, 0, none⟩), .agg #[.int .u8 kd, .int .i64 1, .int .i64 b]] w (DoPost w p c q la ([] : List Nat)) := by
  have HIn : Hid (∀ w' a b ca cb, Row w' .i64 a (ints []) → Row w' .i64 b (ints []) → Calls Try.prog 20 #[.slice a 0 ca, .slice b 0 cb] w' fun e w'' => e = .returned (.bool true) ∧ Drw w' w'') := Lib.hid (fun w' a b ca cb h1 h2 => by
    have := rcInts_same a b ca cb (ints []) w' h1 h2 (by simp [ints])
    rw [ints_length] at this
    exact this)
  have HT := Lib.hid hT
  have hfd := conf_field0 (c.N : Int) (c.W : Int) (c.R : Int) (c.K : Int)
  have HN : Hid (NoTake c s.zs 1) := Lib.hid (Or.inr ⟨1, rfl, by decide, HT.out.a1⟩)
  clear hT
  go_enter Try.func10, Try.ntmps10
  have hBk := Blk.new w #[.int .u8 kd, .int .i64 1, .int .i64 b] 36
  have HBk := Lib.hid hBk
  have HT0 := Lib.hid (HT.out.later (below_new w (.cells #[.int .u8 kd, .int .i64 1, .int .i64 b] 36)))
  have HTo0 : Hid (Touch (XC p q) w (w.alloc (.cells #[.int .u8 kd, .int .i64 1, .int .i64 b] 36))) := Lib.hid (Touch.of_below (below_new w _))
  have x0 := hBk.cell 0 rfl
  have x1 := hBk.cell 1 rfl
  have x2 := hBk.cell 2 rfl
  clear hBk
  go_wp2_with fail
  go_region_held3 (fun w' => w'.cell? ⟨w.heap.size, 2, none⟩ = some (.int .i64 b)) (first | exact y2 | exact x2)
    (first | (go_at_call 22; refine (gconfV p c s _ HT0.out.drew.gr).mono ?_; rintro e w1 ⟨rfl, hb⟩; have HT1 := Lib.hid (HT0.out.drew.later hb); have HBk1 := Lib.hid (HBk.out.drew.later hb); have HTo1 : Hid (Touch (XC p q) w w1) := Lib.hid (HTo0.out.trans (Touch.of_below (below_undrew' hb))); have y2 := HBk1.out.cell 2 rfl; clear hb))
  clear x0 x1 x2 y2
  have y0 := HBk1.out.cell 0 rfl
  have y1 := HBk1.out.cell 1 rfl
  have y2 := HBk1.out.cell 2 rfl
  go_wp2_with fail
  refine (rcOf1 _ _ _ _ _ HT1.out.ch).mono ?_
  rintro e w2 ⟨⟨a, cap, rfl, hr, hro⟩, rfl⟩
  have HR := Lib.hid hr
  have HRO := Lib.hid hro
  clear hr hro
  go_wp2_with fail
  refine (gmeter_any p c s _ HT1.out.gr).mono ?_
  rintro e w2 ⟨rfl, rfl⟩
  go_wp2_with fail
  refine (F.first_no p c s 1 _ HT1.out.gr HN.out).mono ?_
  rintro e w6 ⟨m, rfl, hG6, hm0, hm1, ht6⟩
  have HG6 := Lib.hid hG6
  have HC6 := Lib.hid (HT1.out.ch.touch ht6 (fun i hi => Or.inr hi) (fun hi => HT.out.out (Or.inr hi)))
  have HBk6 := Lib.hid (HBk1.out.touch ht6 (fun hi => fresh_not HT.out (Or.inr hi)))
  have HR6 := Lib.hid (HR.out.touch ht6 (HRO.out.mono (fun i hi => Or.inr hi)))
  have HTo6 : Hid (Touch (XC p q) w w6) := Lib.hid (HTo1.out.trans (ht6.mono (fun i _ hi => Or.inr hi)))
  clear hG6 ht6 y0 y1 y2
  have y1 := HBk6.out.cell 1 rfl
  go_wp2_with fail
  refine (F.len_yes p c ⟨s.zs, m⟩ 1 ([] : List Nat) _ HG6.out HT.out.a1 (by decide)).mono ?_
  rintro e w7 ⟨m7, rfl, hG7, hm2, hm3, ht7⟩
  have hm2' : m ≤ m7 := hm2
  have hm3' : m7 ≤ m + 16 := hm3
  obtain ⟨d, hd0, hd1, hdw⟩ := meter_d (m := s.m) (m' := m7) (by omega) (by omega)
  have HG7 := Lib.hid hG7
  have HC7 := Lib.hid (HC6.out.touch ht7 (fun i hi => Or.inr hi) (fun hi => HT.out.out (Or.inr hi)))
  have HBk7 := Lib.hid (HBk6.out.touch ht7 (fun hi => fresh_not HT.out (Or.inr hi)))
  have HR7 := Lib.hid (HR6.out.touch ht7 (HRO.out.mono (fun i hi => Or.inr hi)))
  have HTo7 : Hid (Touch (XC p q) w w7) := Lib.hid (HTo6.out.trans (ht7.mono (fun i _ hi => Or.inr hi)))
  have hd32 : (d : Int) ≤ 32 := by omega
  clear hG7 ht7 hm0 hm1 hm2 hm3 hm2' hm3' hd0 hd1 y1
  have y1 := HBk7.out.cell 1 rfl
  go_wp2_with fail
  refine (gmeter_any p c _ _ HG7.out).mono ?_
  rintro e w8 ⟨rfl, rfl⟩
  go_wp2_with fail
  refine (gmeter_any p c _ _ HG7.out).mono ?_
  rintro e w8 ⟨rfl, rfl⟩
  go_wp2_with fail
  refine (F.list_yes p c ⟨s.zs, m7⟩ 1 ([] : List Nat) _ HG7.out HT.out.a1 (by decide)).mono ?_
  rintro e w8 ⟨a8, cap8, rfl, hr8, _, hb8⟩
  have HR8 := Lib.hid hr8
  have HRl8 := Lib.hid (HR7.out.later hb8)
  have HG8 := Lib.hid (HG7.out.later hb8)
  have HC8 := Lib.hid (HC7.out.later hb8)
  have HTo8 : Hid (Touch (XC p q) w w8) := Lib.hid (HTo7.out.trans (Touch.of_below hb8))
  clear hr8 hb8
  go_wp2_with fail
  refine (HIn.out _ _ _ _ _ HR8.out HRl8.out).mono ?_
  rintro e w9 ⟨rfl, hdr⟩
  have HG9 := Lib.hid (HG8.out.drw hdr)
  have HC9 := Lib.hid (HC8.out.later hdr.new)
  have HTo9 : Hid (Touch (XC p q) w w9) := Lib.hid (HTo8.out.trans (Touch.of_below hdr.new))
  clear hdr
  go_wp2_with fail
  refine (gmeter_any p c _ _ HG9.out).mono ?_
  rintro e w10 ⟨rfl, rfl⟩
  go_wp2_with fail
  go_ret
  exact ⟨ret_bool (by first | rfl | (simp; done) | (simp; omega)), _, la, ([] : List Nat), ⟨HG9.out, HC9.out, HT.out.out, HT.out.a0, HT.out.a1, HT.out.dj⟩, by omega, HTo9.out⟩

set_option maxRecDepth 100000 in
set_option maxHeartbeats 2000000 in
theorem do_le1neg (F : ChainFns) (p : Pl) (c : Cf) (s : St) (q : Nat) (kd b : Int) (la : List Nat) (w : World) (hT : Two w p c s q la ([] : List Nat)) (hl : la.length + ([] : List Nat).length ≤ 9000) (g0 : (kd == 0) = false) (g1 : (kd == 1) = false) (g2 : (kd == 2) = false) (hb : b < 0) :
    Calls Try.prog 10 #[.pointer (some ⟨p.a, 0, none⟩), .pointer (some ⟨q, 0, none⟩), .agg #[.int .u8 kd, .int .i64 1, .int .i64 b]] w (DoPost w p c q la ([] : List Nat)) := by
  have HIn : Hid (∀ w' a b ca cb, Row w' .i64 a (ints []) → Row w' .i64 b (ints []) → Calls Try.prog 20 #[.slice a 0 ca, .slice b 0 cb] w' fun e w'' => e = .returned (.bool true) ∧ Drw w' w'') := Lib.hid (fun w' a b ca cb h1 h2 => by
    have := rcInts_same a b ca cb (ints []) w' h1 h2 (by simp [ints])
    rw [ints_length] at this
    exact this)
  have HT := Lib.hid hT
  have hfd := conf_field0 (c.N : Int) (c.W : Int) (c.R : Int) (c.K : Int)
  have hbn : ¬ (0 : Int) ≤ b := by omega
  have hbd : decide ((0 : Int) ≤ b) = false := decide_eq_false hbn
  have HN : Hid (NoTake c s.zs 1) := Lib.hid (Or.inr ⟨1, rfl, by decide, HT.out.a1⟩)
  clear hT
  go_enter Try.func10, Try.ntmps10
  have hBk := Blk.new w #[.int .u8 kd, .int .i64 1, .int .i64 b] 36
  have HBk := Lib.hid hBk
  have HT0 := Lib.hid (HT.out.later (below_new w (.cells #[.int .u8 kd, .int .i64 1, .int .i64 b] 36)))
  have HTo0 : Hid (Touch (XC p q) w (w.alloc (.cells #[.int .u8 kd, .int .i64 1, .int .i64 b] 36))) := Lib.hid (Touch.of_below (below_new w _))
  have HTn : Hid (∀ n, Two ((w.alloc (.cells #[.int .u8 kd, .int .i64 1, .int .i64 b] 36)).drewN n) p c s q la ([] : List Nat)) := Lib.hid (fun n => HT0.out.later (Drw.new ⟨n, rfl⟩))
  have HBkn : Hid (∀ n, Blk ((w.alloc (.cells #[.int .u8 kd, .int .i64 1, .int .i64 b] 36)).drewN n) w.heap.size #[.int .u8 kd, .int .i64 1, .int .i64 b] 36) := Lib.hid (fun n => HBk.out.drewN n)
  have HTon : Hid (∀ n, Touch (XC p q) w ((w.alloc (.cells #[.int .u8 kd, .int .i64 1, .int .i64 b] 36)).drewN n)) := Lib.hid (fun n => HTo0.out.drewN n)
  have x0 := hBk.cell 0 rfl
  have x1 := hBk.cell 1 rfl
  have x2 := hBk.cell 2 rfl
  clear hBk
  go_wp2_with fail
  go_quiet (fail)
  go_wp2_with fail
  refine (rcOf1 _ _ _ _ _ (HTn.out _).ch).mono ?_
  rintro e w1 ⟨⟨a, cap, rfl, hr, hro⟩, hw⟩
  have HT1 : Hid (Two w1 p c s q la ([] : List Nat)) := Lib.hid (hw ▸ HTn.out _)
  have HBk1 : Hid (Blk w1 w.heap.size #[.int .u8 kd, .int .i64 1, .int .i64 b] 36) := Lib.hid (hw ▸ HBkn.out _)
  have HTo1 : Hid (Touch (XC p q) w w1) := Lib.hid (hw ▸ HTon.out _)
  rw [hw] at hr
  have HR := Lib.hid hr
  have HRO := Lib.hid hro
  clear hw hr hro x0 x1 x2
  have y0 := HBk1.out.cell 0 rfl
  have y1 := HBk1.out.cell 1 rfl
  have y2 := HBk1.out.cell 2 rfl
  go_wp2_with fail
  refine (gmeter_any p c s _ HT1.out.gr).mono ?_
  rintro e w2 ⟨rfl, rfl⟩
  go_wp2_with fail
  refine (F.first_no p c s 1 _ HT1.out.gr HN.out).mono ?_
  rintro e w6 ⟨m, rfl, hG6, hm0, hm1, ht6⟩
  have HG6 := Lib.hid hG6
  have HC6 := Lib.hid (HT1.out.ch.touch ht6 (fun i hi => Or.inr hi) (fun hi => HT.out.out (Or.inr hi)))
  have HBk6 := Lib.hid (HBk1.out.touch ht6 (fun hi => fresh_not HT.out (Or.inr hi)))
  have HR6 := Lib.hid (HR.out.touch ht6 (HRO.out.mono (fun i hi => Or.inr hi)))
  have HTo6 : Hid (Touch (XC p q) w w6) := Lib.hid (HTo1.out.trans (ht6.mono (fun i _ hi => Or.inr hi)))
  clear hG6 ht6 y0 y1 y2
  have y1 := HBk6.out.cell 1 rfl
  go_wp2_with fail
  refine (F.len_yes p c ⟨s.zs, m⟩ 1 ([] : List Nat) _ HG6.out HT.out.a1 (by decide)).mono ?_
  rintro e w7 ⟨m7, rfl, hG7, hm2, hm3, ht7⟩
  have hm2' : m ≤ m7 := hm2
  have hm3' : m7 ≤ m + 16 := hm3
  obtain ⟨d, hd0, hd1, hdw⟩ := meter_d (m := s.m) (m' := m7) (by omega) (by omega)
  have HG7 := Lib.hid hG7
  have HC7 := Lib.hid (HC6.out.touch ht7 (fun i hi => Or.inr hi) (fun hi => HT.out.out (Or.inr hi)))
  have HBk7 := Lib.hid (HBk6.out.touch ht7 (fun hi => fresh_not HT.out (Or.inr hi)))
  have HR7 := Lib.hid (HR6.out.touch ht7 (HRO.out.mono (fun i hi => Or.inr hi)))
  have HTo7 : Hid (Touch (XC p q) w w7) := Lib.hid (HTo6.out.trans (ht7.mono (fun i _ hi => Or.inr hi)))
  have hd32 : (d : Int) ≤ 32 := by omega
  clear hG7 ht7 hm0 hm1 hm2 hm3 hm2' hm3' hd0 hd1 y1
  have y1 := HBk7.out.cell 1 rfl
  go_wp2_with fail
  refine (gmeter_any p c _ _ HG7.out).mono ?_
  rintro e w8 ⟨rfl, rfl⟩
  go_wp2_with fail
  refine (gmeter_any p c _ _ HG7.out).mono ?_
  rintro e w8 ⟨rfl, rfl⟩
  go_wp2_with fail
  refine (F.list_yes p c ⟨s.zs, m7⟩ 1 ([] : List Nat) _ HG7.out HT.out.a1 (by decide)).mono ?_
  rintro e w8 ⟨a8, cap8, rfl, hr8, _, hb8⟩
  have HR8 := Lib.hid hr8
  have HRl8 := Lib.hid (HR7.out.later hb8)
  have HG8 := Lib.hid (HG7.out.later hb8)
  have HC8 := Lib.hid (HC7.out.later hb8)
  have HTo8 : Hid (Touch (XC p q) w w8) := Lib.hid (HTo7.out.trans (Touch.of_below hb8))
  clear hr8 hb8
  go_wp2_with fail
  refine (HIn.out _ _ _ _ _ HR8.out HRl8.out).mono ?_
  rintro e w9 ⟨rfl, hdr⟩
  have HG9 := Lib.hid (HG8.out.drw hdr)
  have HC9 := Lib.hid (HC8.out.later hdr.new)
  have HTo9 : Hid (Touch (XC p q) w w9) := Lib.hid (HTo8.out.trans (Touch.of_below hdr.new))
  clear hdr
  go_wp2_with fail
  refine (gmeter_any p c _ _ HG9.out).mono ?_
  rintro e w10 ⟨rfl, rfl⟩
  go_wp2_with fail
  go_ret
  exact ⟨ret_bool (by first | rfl | (simp; done) | (simp; omega)), _, la, ([] : List Nat), ⟨HG9.out, HC9.out, HT.out.out, HT.out.a0, HT.out.a1, HT.out.dj⟩, by omega, HTo9.out⟩

set_option maxRecDepth 100000 in
set_option maxHeartbeats 2000000 in
theorem do_lk (F : ChainFns) (p : Pl) (c : Cf) (s : St) (q : Nat) (kd k b : Int) (la lb : List Nat) (w : World) (hT : Two w p c s q la lb) (hl : la.length + lb.length ≤ 9000) (g0 : (kd == 0) = false) (g1 : (kd == 1) = false) (g2 : (kd == 2) = false) (j0 : (k == 0) = false) (j1 : (k == 1) = false) :
    Calls Try.prog 10 #[.pointer (some ⟨p.a, 0, none⟩), .pointer (some ⟨q, 0, none⟩), .agg #[.int .u8 kd, .int .i64 k, .int .i64 b]] w (DoPost w p c q la lb) := by
  have HIn : Hid (∀ w' a b ca cb, Row w' .i64 a (ints []) → Row w' .i64 b (ints []) → Calls Try.prog 20 #[.slice a 0 ca, .slice b 0 cb] w' fun e w'' => e = .returned (.bool true) ∧ Drw w' w'') := Lib.hid (fun w' a b ca cb h1 h2 => by
    have := rcInts_same a b ca cb (ints []) w' h1 h2 (by simp [ints])
    rw [ints_length] at this
    exact this)
  have HK : Hid (¬ (k = 0 ∨ k = 1)) := Lib.hid (by intro h; rcases h with h | h <;> simp [h] at j0 j1)
  have HN : Hid (NoTake c s.zs k) := Lib.hid (Or.inl HK.out)
  have HT := Lib.hid hT
  have hfd := conf_field0 (c.N : Int) (c.W : Int) (c.R : Int) (c.K : Int)
  clear hT
  go_enter Try.func10, Try.ntmps10
  have hBk := Blk.new w #[.int .u8 kd, .int .i64 k, .int .i64 b] 36
  have HBk := Lib.hid hBk
  have HT0 := Lib.hid (HT.out.later (below_new w (.cells #[.int .u8 kd, .int .i64 k, .int .i64 b] 36)))
  have HTo0 : Hid (Touch (XC p q) w (w.alloc (.cells #[.int .u8 kd, .int .i64 k, .int .i64 b] 36))) := Lib.hid (Touch.of_below (below_new w _))
  have HTn : Hid (∀ n, Two ((w.alloc (.cells #[.int .u8 kd, .int .i64 k, .int .i64 b] 36)).drewN n) p c s q la lb) := Lib.hid (fun n => HT0.out.later (Drw.new ⟨n, rfl⟩))
  have HBkn : Hid (∀ n, Blk ((w.alloc (.cells #[.int .u8 kd, .int .i64 k, .int .i64 b] 36)).drewN n) w.heap.size #[.int .u8 kd, .int .i64 k, .int .i64 b] 36) := Lib.hid (fun n => HBk.out.drewN n)
  have HTon : Hid (∀ n, Touch (XC p q) w ((w.alloc (.cells #[.int .u8 kd, .int .i64 k, .int .i64 b] 36)).drewN n)) := Lib.hid (fun n => HTo0.out.drewN n)
  have x0 := hBk.cell 0 rfl
  have x1 := hBk.cell 1 rfl
  have x2 := hBk.cell 2 rfl
  clear hBk
  go_wp2_with fail
  go_quiet (fail)
  go_wp2_with fail
  refine (gmeter_any p c s _ (HTn.out _).gr).mono ?_
  rintro e w1 ⟨rfl, hw⟩
  have HT1 : Hid (Two w1 p c s q la lb) := Lib.hid (hw ▸ HTn.out _)
  have HBk1 : Hid (Blk w1 w.heap.size #[.int .u8 kd, .int .i64 k, .int .i64 b] 36) := Lib.hid (hw ▸ HBkn.out _)
  have HTo1 : Hid (Touch (XC p q) w w1) := Lib.hid (hw ▸ HTon.out _)
  clear hw x0 x1 x2
  have y0 := HBk1.out.cell 0 rfl
  have y1 := HBk1.out.cell 1 rfl
  have y2 := HBk1.out.cell 2 rfl
  go_wp2_with fail
  refine (F.first_no p c s k _ HT1.out.gr HN.out).mono ?_
  rintro e w6 ⟨m, rfl, hG6, hm0, hm1, ht6⟩
  have HG6 := Lib.hid hG6
  have HC6 := Lib.hid (HT1.out.ch.touch ht6 (fun i hi => Or.inr hi) (fun hi => HT.out.out (Or.inr hi)))
  have HBk6 := Lib.hid (HBk1.out.touch ht6 (fun hi => fresh_not HT.out (Or.inr hi)))
  have HTo6 : Hid (Touch (XC p q) w w6) := Lib.hid (HTo1.out.trans (ht6.mono (fun i _ hi => Or.inr hi)))
  clear hG6 ht6 y0 y1 y2
  have y1 := HBk6.out.cell 1 rfl
  go_wp2_with fail
  refine (F.len_no p c _ k _ HG6.out HK.out).mono ?_
  rintro e w7 ⟨m7, rfl, hG7, hm2, hm3, ht7⟩
  have hm2' : m ≤ m7 := hm2
  have hm3' : m7 ≤ m + 16 := hm3
  obtain ⟨d, hd0, hd1, hdw⟩ := meter_d (m := s.m) (m' := m7) (by omega) (by omega)
  have HG7 := Lib.hid hG7
  have HC7 := Lib.hid (HC6.out.touch ht7 (fun i hi => Or.inr hi) (fun hi => HT.out.out (Or.inr hi)))
  have HBk7 := Lib.hid (HBk6.out.touch ht7 (fun hi => fresh_not HT.out (Or.inr hi)))
  have HTo7 : Hid (Touch (XC p q) w w7) := Lib.hid (HTo6.out.trans (ht7.mono (fun i _ hi => Or.inr hi)))
  have hd32 : (d : Int) ≤ 32 := by omega
  clear hG7 ht7 hm0 hm1 hm2 hm3 hm2' hm3' hd0 hd1 y1
  have y1 := HBk7.out.cell 1 rfl
  go_wp2_with fail
  refine (gmeter_any p c _ _ HG7.out).mono ?_
  rintro e w8 ⟨rfl, rfl⟩
  go_wp2_with fail
  refine (gmeter_any p c _ _ HG7.out).mono ?_
  rintro e w8 ⟨rfl, rfl⟩
  go_wp2_with fail
  refine (F.list_no p c _ k _ HG7.out HK.out).mono ?_
  rintro e w8 ⟨a8, cap8, rfl, hr8, _, hb8⟩
  have HR8 := Lib.hid hr8
  have HRl8 : Hid (Row w8 .i64 none (ints [])) := Lib.hid (Row.nil _ _ _)
  have HG8 := Lib.hid (HG7.out.later hb8)
  have HC8 := Lib.hid (HC7.out.later hb8)
  have HTo8 : Hid (Touch (XC p q) w w8) := Lib.hid (HTo7.out.trans (Touch.of_below hb8))
  clear hr8 hb8
  go_wp2_with fail
  refine (HIn.out _ _ _ _ _ HR8.out HRl8.out).mono ?_
  rintro e w9 ⟨rfl, hdr⟩
  have HG9 := Lib.hid (HG8.out.drw hdr)
  have HC9 := Lib.hid (HC8.out.later hdr.new)
  have HTo9 : Hid (Touch (XC p q) w w9) := Lib.hid (HTo8.out.trans (Touch.of_below hdr.new))
  clear hdr
  go_wp2_with fail
  refine (gmeter_any p c _ _ HG9.out).mono ?_
  rintro e w10 ⟨rfl, rfl⟩
  go_wp2_with fail
  go_ret
  exact ⟨ret_bool (by first | rfl | (simp; done) | (simp; omega)), _, la, lb, ⟨HG9.out, HC9.out, HT.out.out, HT.out.a0, HT.out.a1, HT.out.dj⟩, by omega, HTo9.out⟩

end Go.Proofs.Yticlidpdmonijaa.Pk
