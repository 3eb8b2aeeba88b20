/-
  An act on a chain: a block is pushed.
-/
import Derived.Test.YticlidpdmonijaaChainDo
import Derived.Deep.RegionHeld3
import Derived.BigQuiet
namespace Go.Proofs.Yticlidpdmonijaa.Pk
open Go.RowKit
set_option linter.unusedVariables false
set_option linter.unusedSimpArgs false

set_option maxRecDepth 100000 in
set_option maxHeartbeats 2000000 in
theorem do_p00 (F : ChainFns) (p : Pl) (c : Cf) (s : St) (q : Nat) (b : Nat) (la lb : List Nat) (w : World) (hT : Two w p c s q la lb) (hl : la.length + lb.length ≤ 9000) (hb : b < c.N) (h1 : b ∉ la) (h2 : b ∉ lb) :
    Calls Try.prog 10 #[.pointer (some ⟨p.a, 0, none⟩), .pointer (some ⟨q, 0, none⟩), .agg #[.int .u8 0, .int .i64 0, .int .i64 (b : Int)]] w (DoPost w p c q la lb) := by
  have hst : decide (b ∈ la ∨ b ∈ lb) = false := decide_eq_false (by rintro (h | h); exact h1 h; exact h2 h)
  have HST := Lib.hid hst
  have H1 := Lib.hid h1
  have H2 := Lib.hid h2
  have HFr : Hid (∀ w' a cap, Row w' .i64 a (ints la) → Calls Try.prog 27 #[.slice a la.length cap, .int .i64 (b : Int)] w' (NewInts w' (b :: la))) := Lib.hid (fun w' a cap hr => by
    have := rcFront_any a cap (ints la) (b : Int) w' hr (by rw [ints_length]; omega)
    rw [ints_length] at this
    exact this.mono (fun e w'' h => h.ints rfl))
  clear hst h1 h2
  have HT := Lib.hid hT
  have hfd := conf_field0 (c.N : Int) (c.W : Int) (c.R : Int) (c.K : Int)
  have hN0 : (0 : Int) ≤ (b : Int) := by omega
  have hN1 : (b : Int) < (c.N : Int) := by omega
  clear hT
  go_enter Try.func10, Try.ntmps10
  have hBk := Blk.new w #[.int .u8 0, .int .i64 0, .int .i64 (b : Int)] 36
  have HBk := Lib.hid hBk
  have HT0 := Lib.hid (HT.out.later (below_new w (.cells #[.int .u8 0, .int .i64 0, .int .i64 (b : Int)] 36)))
  have HTo0 : Hid (Touch (XC p q) w (w.alloc (.cells #[.int .u8 0, .int .i64 0, .int .i64 (b : Int)] 36))) := Lib.hid (Touch.of_below (below_new w _))
  have x0 := hBk.cell 0 rfl
  have x1 := hBk.cell 1 rfl
  have x2 := hBk.cell 2 rfl
  clear hBk
  go_wp2_with fail
  go_region_held3 (fun w' => w'.cell? ⟨w.heap.size, 2, none⟩ = some (.int .i64 (b : Int))) (first | exact y2 | exact x2)
    (first | (go_at_call 22; refine (gconfV p c s _ HT0.out.drew.gr).mono ?_; rintro e w1 ⟨rfl, hb⟩; have HT1 := Lib.hid (HT0.out.drew.later hb); have HBk1 := Lib.hid (HBk.out.drew.later hb); have HTo1 : Hid (Touch (XC p q) w w1) := Lib.hid (HTo0.out.trans (Touch.of_below (below_undrew' hb))); have y2 := HBk1.out.cell 2 rfl; clear hb))
  clear x0 x1 x2 y2
  have y0 := HBk1.out.cell 0 rfl
  have y1 := HBk1.out.cell 1 rfl
  have y2 := HBk1.out.cell 2 rfl
  go_wp2_with fail
  refine (rcOf0 _ _ _ _ _ HT1.out.ch).mono ?_
  rintro e w2 ⟨⟨a, cap, rfl, hr, hro⟩, rfl⟩
  have HR := Lib.hid hr
  have HRO := Lib.hid hro
  clear hr hro
  go_wp2_with fail
  refine (gmeter_any p c s _ HT1.out.gr).mono ?_
  rintro e w2 ⟨rfl, rfl⟩
  go_wp2_with fail
  refine (rcStands_any _ _ _ _ _ _ HT1.out.ch (by omega) (by omega)).mono ?_
  rw [HST.out]
  rintro e w2 ⟨rfl, rfl⟩
  go_wp2_with fail
  go_region_held3 (fun w' => w'.cell? ⟨w.heap.size, 1, none⟩ = some (.int .i64 0) ∧ w'.cell? ⟨w.heap.size, 2, none⟩ = some (.int .i64 (b : Int))) (first | exact ⟨HBk5.out.cell 1 rfl, HBk5.out.cell 2 rfl⟩ | exact ⟨HBk4.out.cell 1 rfl, HBk4.out.cell 2 rfl⟩ | exact ⟨y1, y2⟩)
    (first | (go_at_call 27; refine (HFr.out _ _ _ HR.out.drew1).mono ?_; rintro e w4 ⟨a4, cap4, rfl, hr4, hf4, hb4⟩; have HT4 := Lib.hid (HT1.out.drew.later hb4); have HBk4 := Lib.hid (HBk1.out.drew.later hb4); have z1 := HBk4.out.cell 1 rfl; have z2 := HBk4.out.cell 2 rfl; have HR4 := Lib.hid hr4; have HO4 := Lib.hid (fresh_out HT1.out.drew (zs := ints (b :: la)) hf4); have HTo4 : Hid (Touch (XC p q) w w4) := Lib.hid (HTo1.out.trans (Touch.of_below (below_undrew' hb4))); clear hr4 hf4 hb4) | (go_at_call 26; refine (rcSet0 _ _ _ _ (b :: la) _ _ _ (by simp) _ HT4.out.ch HR4.out HO4.out).mono ?_; rintro e w5 ⟨rfl, hc5, ht5⟩; have HC5 := Lib.hid hc5; have HG5 := Lib.hid (HT4.out.gr.touch ht5 (fun i hi e => HT4.out.out (by rw [← e]; exact hi))); have HBk5 := Lib.hid (HBk4.out.touch ht5 (by have := HT.out.ch.lt; omega)); have u1 := HBk5.out.cell 1 rfl; have u2 := HBk5.out.cell 2 rfl; have HTo5 : Hid (Touch (XC p q) w w5) := Lib.hid (HTo4.out.trans (ht5.mono (fun i _ hi => Or.inl hi))); clear hc5 ht5))
  have HTo5 := HTo5
  go_wp2_with fail
  refine (F.push_yes p c s 0 b la _ HG5.out HT.out.a0 (by decide) hb H1.out).mono ?_
  rintro e w6 ⟨m, rfl, hG6, hm0, hm1, ht6⟩
  obtain ⟨d, hd0, hd1, hdw⟩ := meter_d hm0 (by omega)
  have HG6 := Lib.hid hG6
  have HC6 := Lib.hid (HC5.out.touch ht6 (fun i hi => Or.inr hi) (fun hi => HT.out.out (Or.inr hi)))
  have HTo6 : Hid (Touch (XC p q) w w6) := Lib.hid (HTo5.out.trans (ht6.mono (fun i _ hi => Or.inr hi)))
  have hd16 : (d : Int) ≤ 16 := by omega
  clear hG6 ht6 hm0 hm1 hd0 hd1
  go_wp2_with fail
  refine (gmeter_any p c _ _ HG6.out).mono ?_
  rintro e w7 ⟨rfl, rfl⟩
  go_wp2_with fail
  go_ret
  have hm := HT.out.gr.may
  have hz := HT.out.gr.len
  refine ⟨ret_bool (by first | rfl | (simp; done) | (simp; omega)), _, (b :: la), lb, ⟨HG6.out, HC6.out, HT.out.out, HT.out.a0.push hm hz (by decide) hb H1.out, HT.out.a1.push_other hm hz (by decide) (by decide) (by decide) H2.out, ?_⟩, by simp; omega, HTo6.out⟩
  intro x hx
  rcases List.mem_cons.1 hx with rfl | hx
  · exact H2.out
  · exact HT.out.dj x hx

set_option maxRecDepth 100000 in
set_option maxHeartbeats 2000000 in
theorem do_p01 (F : ChainFns) (p : Pl) (c : Cf) (s : St) (q : Nat) (b : Nat) (la lb : List Nat) (w : World) (hT : Two w p c s q la lb) (hl : la.length + lb.length ≤ 9000) (hb : b < c.N) (h1 : b ∉ la) (h2 : b ∉ lb) :
    Calls Try.prog 10 #[.pointer (some ⟨p.a, 0, none⟩), .pointer (some ⟨q, 0, none⟩), .agg #[.int .u8 0, .int .i64 1, .int .i64 (b : Int)]] w (DoPost w p c q la lb) := by
  have hst : decide (b ∈ la ∨ b ∈ lb) = false := decide_eq_false (by rintro (h | h); exact h1 h; exact h2 h)
  have HST := Lib.hid hst
  have H1 := Lib.hid h2
  have H2 := Lib.hid h1
  have HFr : Hid (∀ w' a cap, Row w' .i64 a (ints lb) → Calls Try.prog 27 #[.slice a lb.length cap, .int .i64 (b : Int)] w' (NewInts w' (b :: lb))) := Lib.hid (fun w' a cap hr => by
    have := rcFront_any a cap (ints lb) (b : Int) w' hr (by rw [ints_length]; omega)
    rw [ints_length] at this
    exact this.mono (fun e w'' h => h.ints rfl))
  clear hst h1 h2
  have HT := Lib.hid hT
  have hfd := conf_field0 (c.N : Int) (c.W : Int) (c.R : Int) (c.K : Int)
  have hN0 : (0 : Int) ≤ (b : Int) := by omega
  have hN1 : (b : Int) < (c.N : Int) := by omega
  clear hT
  go_enter Try.func10, Try.ntmps10
  have hBk := Blk.new w #[.int .u8 0, .int .i64 1, .int .i64 (b : Int)] 36
  have HBk := Lib.hid hBk
  have HT0 := Lib.hid (HT.out.later (below_new w (.cells #[.int .u8 0, .int .i64 1, .int .i64 (b : Int)] 36)))
  have HTo0 : Hid (Touch (XC p q) w (w.alloc (.cells #[.int .u8 0, .int .i64 1, .int .i64 (b : Int)] 36))) := Lib.hid (Touch.of_below (below_new w _))
  have x0 := hBk.cell 0 rfl
  have x1 := hBk.cell 1 rfl
  have x2 := hBk.cell 2 rfl
  clear hBk
  go_wp2_with fail
  go_region_held3 (fun w' => w'.cell? ⟨w.heap.size, 2, none⟩ = some (.int .i64 (b : Int))) (first | exact y2 | exact x2)
    (first | (go_at_call 22; refine (gconfV p c s _ HT0.out.drew.gr).mono ?_; rintro e w1 ⟨rfl, hb⟩; have HT1 := Lib.hid (HT0.out.drew.later hb); have HBk1 := Lib.hid (HBk.out.drew.later hb); have HTo1 : Hid (Touch (XC p q) w w1) := Lib.hid (HTo0.out.trans (Touch.of_below (below_undrew' hb))); have y2 := HBk1.out.cell 2 rfl; clear hb))
  clear x0 x1 x2 y2
  have y0 := HBk1.out.cell 0 rfl
  have y1 := HBk1.out.cell 1 rfl
  have y2 := HBk1.out.cell 2 rfl
  go_wp2_with fail
  refine (rcOf1 _ _ _ _ _ HT1.out.ch).mono ?_
  rintro e w2 ⟨⟨a, cap, rfl, hr, hro⟩, rfl⟩
  have HR := Lib.hid hr
  have HRO := Lib.hid hro
  clear hr hro
  go_wp2_with fail
  refine (gmeter_any p c s _ HT1.out.gr).mono ?_
  rintro e w2 ⟨rfl, rfl⟩
  go_wp2_with fail
  refine (rcStands_any _ _ _ _ _ _ HT1.out.ch (by omega) (by omega)).mono ?_
  rw [HST.out]
  rintro e w2 ⟨rfl, rfl⟩
  go_wp2_with fail
  go_region_held3 (fun w' => w'.cell? ⟨w.heap.size, 1, none⟩ = some (.int .i64 1) ∧ w'.cell? ⟨w.heap.size, 2, none⟩ = some (.int .i64 (b : Int))) (first | exact ⟨HBk5.out.cell 1 rfl, HBk5.out.cell 2 rfl⟩ | exact ⟨HBk4.out.cell 1 rfl, HBk4.out.cell 2 rfl⟩ | exact ⟨y1, y2⟩)
    (first | (go_at_call 27; refine (HFr.out _ _ _ HR.out.drew1).mono ?_; rintro e w4 ⟨a4, cap4, rfl, hr4, hf4, hb4⟩; have HT4 := Lib.hid (HT1.out.drew.later hb4); have HBk4 := Lib.hid (HBk1.out.drew.later hb4); have z1 := HBk4.out.cell 1 rfl; have z2 := HBk4.out.cell 2 rfl; have HR4 := Lib.hid hr4; have HO4 := Lib.hid (fresh_out HT1.out.drew (zs := ints (b :: lb)) hf4); have HTo4 : Hid (Touch (XC p q) w w4) := Lib.hid (HTo1.out.trans (Touch.of_below (below_undrew' hb4))); clear hr4 hf4 hb4) | (go_at_call 26; refine (rcSet1 _ _ _ _ (b :: lb) _ _ _ (by simp) _ HT4.out.ch HR4.out HO4.out).mono ?_; rintro e w5 ⟨rfl, hc5, ht5⟩; have HC5 := Lib.hid hc5; have HG5 := Lib.hid (HT4.out.gr.touch ht5 (fun i hi e => HT4.out.out (by rw [← e]; exact hi))); have HBk5 := Lib.hid (HBk4.out.touch ht5 (by have := HT.out.ch.lt; omega)); have u1 := HBk5.out.cell 1 rfl; have u2 := HBk5.out.cell 2 rfl; have HTo5 : Hid (Touch (XC p q) w w5) := Lib.hid (HTo4.out.trans (ht5.mono (fun i _ hi => Or.inl hi))); clear hc5 ht5))
  have HTo5 := HTo5
  go_wp2_with fail
  refine (F.push_yes p c s 1 b lb _ HG5.out HT.out.a1 (by decide) hb H1.out).mono ?_
  rintro e w6 ⟨m, rfl, hG6, hm0, hm1, ht6⟩
  obtain ⟨d, hd0, hd1, hdw⟩ := meter_d hm0 (by omega)
  have HG6 := Lib.hid hG6
  have HC6 := Lib.hid (HC5.out.touch ht6 (fun i hi => Or.inr hi) (fun hi => HT.out.out (Or.inr hi)))
  have HTo6 : Hid (Touch (XC p q) w w6) := Lib.hid (HTo5.out.trans (ht6.mono (fun i _ hi => Or.inr hi)))
  have hd16 : (d : Int) ≤ 16 := by omega
  clear hG6 ht6 hm0 hm1 hd0 hd1
  go_wp2_with fail
  refine (gmeter_any p c _ _ HG6.out).mono ?_
  rintro e w7 ⟨rfl, rfl⟩
  go_wp2_with fail
  go_ret
  have hm := HT.out.gr.may
  have hz := HT.out.gr.len
  refine ⟨ret_bool (by first | rfl | (simp; done) | (simp; omega)), _, la, (b :: lb), ⟨HG6.out, HC6.out, HT.out.out, HT.out.a0.push_other hm hz (by decide) (by decide) (by decide) H2.out, HT.out.a1.push hm hz (by decide) hb H1.out, ?_⟩, by simp; omega, HTo6.out⟩
  intro x hx hx2
  rcases List.mem_cons.1 hx2 with rfl | hx2
  · exact H2.out hx
  · exact HT.out.dj x hx hx2

end Go.Proofs.Yticlidpdmonijaa.Pk
