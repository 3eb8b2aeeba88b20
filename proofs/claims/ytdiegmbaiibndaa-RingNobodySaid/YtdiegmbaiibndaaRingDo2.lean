/-
  Layer 9: the law's act, case by case.
-/
import Derived.Test.YtdiegmbaiibndaaRingDo
import Derived.Deep.RegionHeld3
import Derived.BigQuiet
namespace Go.Proofs.Ytdiegmbaiibndaa.Pk
open Go.RowKit
set_option linter.unusedVariables false
set_option linter.unusedSimpArgs false

/-- What lies there when an act begins. -/
structure AtR (w : World) (p : Pl) (n : Nat) (s : St) (ks : List Int) (l : List Nat) (ak a : Option Addr) : Prop where
  gr : G w p (cfR n) s
  like : LikeR (cfR n) ks l s.zs
  hn : n = ks.length
  hk : Kinds ks
  rk : Row w .u8 ak ks
  ok : RowOut (inG p) ak ks
  r : Row w .i64 a (ints l)
  o : RowOut (inG p) a (ints l)
  hl : l.length ≤ 9000
theorem rWithout (a : Option Addr) (cap : Nat) (l l' : List Nat) (b : Int) (w : World) (hr : Row w .i64 a (ints l)) (hl : l.length ≤ 9000) (hf : (ints l).filter (fun x => x != b) = ints l') :
    Calls Try.prog 26 #[.slice a l.length cap, .int .i64 b] w (NewNats l' w) := by
  have := rcWithout_any a cap (ints l) b w hr (by rw [ints_length]; omega)
  rw [ints_length] at this
  exact this.mono (fun e w' h => h.nats hf)





set_option maxHeartbeats 1000000 in
theorem rdo_add_yes (F : RingFns) (p : Pl) (n : Nat) (s : St) (ks : List Int) (l : List Nat) (ak a : Option Addr) (ck cap : Nat) (b : Nat) (hb : b < n) (hh : headK (nth ks b) = true) (hin : b ∉ l) (w : World) (hA : AtR w p n s ks l ak a) :
    Calls Try.prog 8 #[.pointer (some ⟨p.a, 0, none⟩), .slice ak n ck, .slice a l.length cap, .agg #[.int .u8 0, .int .i64 (b : Int)]] w (DoR w p (cfR n) ks l) := by
  have HA := Lib.hid hA
  obtain ⟨d, hdB, H⟩ := F.add_yes (cfR n) s.zs l b hA.gr.wz hA.like.ring hb hin ((hA.like.kind hb).2 hh)
  have HD := Lib.hid (fun m w hG => H p m w hG)
  have hdw := u64m_add s.m d (by omega)
  have HI : Hid (hasB (ints l) (b : Int) = false) := Lib.hid (by rw [ints_has]; exact decide_eq_false hin)
  have HHd : Hid (headB ks (b : Int) = true) := Lib.hid (by unfold headB; rw [bel_mk (by rw [← hA.hn]; exact hb)]; simpa using hh)
  have HLk := Lib.hid (hA.like.add hA.gr.may hA.gr.len hb hin hh)
  have EL : Hid ((l ++ [b]).length = l.length + 1) := Lib.hid (by simp)
  have HR := Lib.hid (hA.r.alloc (.cells #[.int .u8 0, .int .i64 (b : Int)] 30))
  have HRk := Lib.hid (hA.rk.alloc (.cells #[.int .u8 0, .int .i64 (b : Int)] 30))
  have HG := Lib.hid (hA.gr.alloc (.cells #[.int .u8 0, .int .i64 (b : Int)] 30))
  have HT : Hid (Touch (inG p) w (w.alloc (.cells #[.int .u8 0, .int .i64 (b : Int)] 30))) := Lib.hid (Touch.of_below (below_new w _))
  have HBk := Lib.hid (Blk.new w #[.int .u8 0, .int .i64 (b : Int)] 30)
  have HNo : Hid (¬ inG p w.heap.size) := Lib.hid (fun hx => by have := hA.gr.ofG_lt (Or.inr hx); omega)
  clear hA H hh hin
  go_enter Try.func8, Try.ntmps8
  have HT0 : Hid (Touch (inG p) w w) := Lib.hid (Touch.refl _ _)
  have cHBk0 := HBk.out.cell 0 rfl
  have cHBk1 := HBk.out.cell 1 rfl
  go_wp2_with fail
  refine (rHas a cap l b _ HR.out HA.out.hl).mono ?_
  rw [HI.out]
  rintro e wm0 ⟨rfl, rfl⟩
  go_wp2_with fail
  refine (gmeter_any p (cfR n) s _ HG.out).mono ?_
  rintro e wm0 ⟨rfl, rfl⟩
  go_wp2_with fail
  refine (head_any ak ck n ks b _ HRk.out HA.out.hn HA.out.hk).mono ?_
  rw [HHd.out]
  rintro e wm1 ⟨rfl, hd⟩
  have HG1 := Lib.hid (HG.out.drw hd)
  have HT1 : Hid (Touch (inG p) _ wm1) := Lib.hid (HT.out.trans (Touch.of_below hd.new))
  have HR1 := Lib.hid (HR.out.drw hd)
  have HRk1 := Lib.hid (HRk.out.drw hd)
  have HBk1 := Lib.hid (HBk.out.drw hd)
  clear hd
  clear cHBk0 cHBk1
  have cHBk0 := HBk1.out.cell 0 rfl
  have cHBk1 := HBk1.out.cell 1 rfl
  go_wp2_with fail
  refine (HD.out s.m _ HG1.out).mono ?_
  rintro e wm2 ⟨rfl, hG, hT⟩
  have HG2 := Lib.hid hG
  have HT2 : Hid (Touch (inG p) _ wm2) := Lib.hid (HT1.out.trans hT)
  have HR2 := Lib.hid (HR1.out.touch hT HA.out.o)
  have HRk2 := Lib.hid (HRk1.out.touch hT HA.out.ok)
  have HBk2 := Lib.hid (HBk1.out.touch hT HNo.out)
  clear hG hT
  clear cHBk0 cHBk1
  have cHBk0 := HBk2.out.cell 0 rfl
  have cHBk1 := HBk2.out.cell 1 rfl
  go_wp2_with fail
  refine (gmeter_any p (cfR n) _ _ HG2.out).mono ?_
  rintro e wm0 ⟨rfl, rfl⟩
  have HGp := Lib.hid HG2.out
  go_wp2_with fail
  refine (rBehind a cap l b _ HR2.out HA.out.hl).mono ?_
  rintro e wm3 ⟨a', cap', rfl, hr', hf', hb⟩
  have HG3 := Lib.hid (HG2.out.later hb)
  have HT3 : Hid (Touch (inG p) _ wm3) := Lib.hid (HT2.out.trans (Touch.of_below hb))
  have HR3 := Lib.hid (HR2.out.later hb)
  have HRk3 := Lib.hid (HRk2.out.later hb)
  have HBk3 := Lib.hid (HBk2.out.later hb)
  clear hb
  clear cHBk0 cHBk1
  have cHBk0 := HBk3.out.cell 0 rfl
  have cHBk1 := HBk3.out.cell 1 rfl
  have HR' := Lib.hid hr'
  have HO' := Lib.hid (fresh_outG (zs := ints (l ++ [b])) HGp.out hf')
  clear hr' hf'
  go_wp2_with fail
  go_ret2
  exact ⟨l ++ [b], a', cap', _, by rw [EL.out]; rfl, HG3.out, HLk.out, HR'.out, HO'.out, by simp, HT3.out⟩


set_option maxHeartbeats 1000000 in
theorem rdo_add_nof (F : RingFns) (p : Pl) (n : Nat) (s : St) (ks : List Int) (l : List Nat) (ak a : Option Addr) (ck cap : Nat) (b : Int) (hN : NoAdd (cfR n) s.zs l b) (hh : headB ks b = false) (w : World) (hA : AtR w p n s ks l ak a) :
    Calls Try.prog 8 #[.pointer (some ⟨p.a, 0, none⟩), .slice ak n ck, .slice a l.length cap, .agg #[.int .u8 0, .int .i64 b]] w (DoR w p (cfR n) ks l) := by
  have HA := Lib.hid hA
  obtain ⟨d, hdB, H⟩ := F.add_no (cfR n) s.zs l b hA.gr.wz hA.like.ring hN
  have HD := Lib.hid (fun m w hG => H p m w hG)
  have hdw := u64m_add s.m d (by omega)
  have HHd := Lib.hid hh
  have HR := Lib.hid (hA.r.alloc (.cells #[.int .u8 0, .int .i64 b] 30))
  have HRk := Lib.hid (hA.rk.alloc (.cells #[.int .u8 0, .int .i64 b] 30))
  have HG := Lib.hid (hA.gr.alloc (.cells #[.int .u8 0, .int .i64 b] 30))
  have HT : Hid (Touch (inG p) w (w.alloc (.cells #[.int .u8 0, .int .i64 b] 30))) := Lib.hid (Touch.of_below (below_new w _))
  have HBk := Lib.hid (Blk.new w #[.int .u8 0, .int .i64 b] 30)
  have HNo : Hid (¬ inG p w.heap.size) := Lib.hid (fun hx => by have := hA.gr.ofG_lt (Or.inr hx); omega)
  clear hA H hN hh
  go_enter Try.func8, Try.ntmps8
  have HT0 : Hid (Touch (inG p) w w) := Lib.hid (Touch.refl _ _)
  have cHBk0 := HBk.out.cell 0 rfl
  have cHBk1 := HBk.out.cell 1 rfl
  go_wp2_with fail
  refine (rHas a cap l b _ HR.out HA.out.hl).mono ?_
  rintro e wm0 ⟨rfl, rfl⟩
  go_wp2_with fail
  refine (gmeter_any p (cfR n) s _ HG.out).mono ?_
  rintro e wm0 ⟨rfl, rfl⟩
  go_wp2_with fail
  refine (head_any ak ck n ks b _ HRk.out HA.out.hn HA.out.hk).mono ?_
  rw [HHd.out]
  rintro e wm1 ⟨rfl, hd⟩
  have HG1 := Lib.hid (HG.out.drw hd)
  have HT1 : Hid (Touch (inG p) _ wm1) := Lib.hid (HT.out.trans (Touch.of_below hd.new))
  have HR1 := Lib.hid (HR.out.drw hd)
  have HRk1 := Lib.hid (HRk.out.drw hd)
  have HBk1 := Lib.hid (HBk.out.drw hd)
  clear hd
  clear cHBk0 cHBk1
  have cHBk0 := HBk1.out.cell 0 rfl
  have cHBk1 := HBk1.out.cell 1 rfl
  go_wp2_with fail
  refine (HD.out s.m _ HG1.out).mono ?_
  rintro e wm2 ⟨rfl, hG, hT⟩
  have HG2 := Lib.hid hG
  have HT2 : Hid (Touch (inG p) _ wm2) := Lib.hid (HT1.out.trans hT)
  have HR2 := Lib.hid (HR1.out.touch hT HA.out.o)
  have HRk2 := Lib.hid (HRk1.out.touch hT HA.out.ok)
  have HBk2 := Lib.hid (HBk1.out.touch hT HNo.out)
  clear hG hT
  clear cHBk0 cHBk1
  have cHBk0 := HBk2.out.cell 0 rfl
  have cHBk1 := HBk2.out.cell 1 rfl
  go_wp2_with fail
  refine (gmeter_any p (cfR n) _ _ HG2.out).mono ?_
  rintro e wm0 ⟨rfl, rfl⟩
  go_wp2_with fail
  go_ret2
  exact ⟨l, a, cap, _, rfl, HG2.out, HA.out.like, HR2.out, HA.out.o, by omega, HT2.out⟩


set_option maxHeartbeats 1000000 in
theorem rdo_add_not (F : RingFns) (p : Pl) (n : Nat) (s : St) (ks : List Int) (l : List Nat) (ak a : Option Addr) (ck cap : Nat) (b : Int) (hN : NoAdd (cfR n) s.zs l b) (hh : headB ks b = true) (hi : hasB (ints l) b = true) (w : World) (hA : AtR w p n s ks l ak a) :
    Calls Try.prog 8 #[.pointer (some ⟨p.a, 0, none⟩), .slice ak n ck, .slice a l.length cap, .agg #[.int .u8 0, .int .i64 b]] w (DoR w p (cfR n) ks l) := by
  have HA := Lib.hid hA
  obtain ⟨d, hdB, H⟩ := F.add_no (cfR n) s.zs l b hA.gr.wz hA.like.ring hN
  have HD := Lib.hid (fun m w hG => H p m w hG)
  have hdw := u64m_add s.m d (by omega)
  have HHd := Lib.hid hh
  have HI := Lib.hid hi
  have HR := Lib.hid (hA.r.alloc (.cells #[.int .u8 0, .int .i64 b] 30))
  have HRk := Lib.hid (hA.rk.alloc (.cells #[.int .u8 0, .int .i64 b] 30))
  have HG := Lib.hid (hA.gr.alloc (.cells #[.int .u8 0, .int .i64 b] 30))
  have HT : Hid (Touch (inG p) w (w.alloc (.cells #[.int .u8 0, .int .i64 b] 30))) := Lib.hid (Touch.of_below (below_new w _))
  have HBk := Lib.hid (Blk.new w #[.int .u8 0, .int .i64 b] 30)
  have HNo : Hid (¬ inG p w.heap.size) := Lib.hid (fun hx => by have := hA.gr.ofG_lt (Or.inr hx); omega)
  clear hA H hN hh hi
  go_enter Try.func8, Try.ntmps8
  have HT0 : Hid (Touch (inG p) w w) := Lib.hid (Touch.refl _ _)
  have cHBk0 := HBk.out.cell 0 rfl
  have cHBk1 := HBk.out.cell 1 rfl
  go_wp2_with fail
  refine (rHas a cap l b _ HR.out HA.out.hl).mono ?_
  rw [HI.out]
  rintro e wm0 ⟨rfl, rfl⟩
  go_wp2_with fail
  refine (gmeter_any p (cfR n) s _ HG.out).mono ?_
  rintro e wm0 ⟨rfl, rfl⟩
  go_wp2_with fail
  refine (head_any ak ck n ks b _ HRk.out HA.out.hn HA.out.hk).mono ?_
  rw [HHd.out]
  rintro e wm1 ⟨rfl, hd⟩
  have HG1 := Lib.hid (HG.out.drw hd)
  have HT1 : Hid (Touch (inG p) _ wm1) := Lib.hid (HT.out.trans (Touch.of_below hd.new))
  have HR1 := Lib.hid (HR.out.drw hd)
  have HRk1 := Lib.hid (HRk.out.drw hd)
  have HBk1 := Lib.hid (HBk.out.drw hd)
  clear hd
  clear cHBk0 cHBk1
  have cHBk0 := HBk1.out.cell 0 rfl
  have cHBk1 := HBk1.out.cell 1 rfl
  go_wp2_with fail
  refine (HD.out s.m _ HG1.out).mono ?_
  rintro e wm2 ⟨rfl, hG, hT⟩
  have HG2 := Lib.hid hG
  have HT2 : Hid (Touch (inG p) _ wm2) := Lib.hid (HT1.out.trans hT)
  have HR2 := Lib.hid (HR1.out.touch hT HA.out.o)
  have HRk2 := Lib.hid (HRk1.out.touch hT HA.out.ok)
  have HBk2 := Lib.hid (HBk1.out.touch hT HNo.out)
  clear hG hT
  clear cHBk0 cHBk1
  have cHBk0 := HBk2.out.cell 0 rfl
  have cHBk1 := HBk2.out.cell 1 rfl
  go_wp2_with fail
  refine (gmeter_any p (cfR n) _ _ HG2.out).mono ?_
  rintro e wm0 ⟨rfl, rfl⟩
  go_wp2_with fail
  go_ret2
  exact ⟨l, a, cap, _, rfl, HG2.out, HA.out.like, HR2.out, HA.out.o, by omega, HT2.out⟩


set_option maxHeartbeats 1000000 in
theorem rdo_cut_yes (F : RingFns) (p : Pl) (n : Nat) (s : St) (ks : List Int) (l : List Nat) (ak a : Option Addr) (ck cap : Nat) (b : Nat) (l1 l2 : List Nat) (hs : l = l1 ++ b :: l2) (w : World) (hA : AtR w p n s ks l ak a) :
    Calls Try.prog 8 #[.pointer (some ⟨p.a, 0, none⟩), .slice ak n ck, .slice a l.length cap, .agg #[.int .u8 1, .int .i64 (b : Int)]] w (DoR w p (cfR n) ks l) := by
  have HA := Lib.hid hA
  have hin : b ∈ l := by rw [hs]; simp
  obtain ⟨d, hdB, H⟩ := F.cut_yes (cfR n) s.zs l b hA.gr.wz hA.like.ring hin
  have HD := Lib.hid (fun m w hG => H p m w hG)
  have hdw := u64m_add s.m d (by omega)
  have HI : Hid (hasB (ints l) (b : Int) = true) := Lib.hid (by rw [ints_has]; exact decide_eq_true hin)
  have HF : Hid ((ints l).filter (fun x => x != (b : Int)) = ints (l1 ++ l2)) := Lib.hid (by rw [ints_filter, hs, filter_split (by rw [← hs]; exact hA.like.ring.nd)])
  have HLk : Hid (LikeR (cfR n) ks (l1 ++ l2) (ringCutZ (cfR n) b s.zs)) := Lib.hid (LikeR.cut (by rw [← hs]; exact hA.like) hA.gr.may hA.gr.len)
  have EL : Hid ((l1 ++ l2).length = l1.length + l2.length) := Lib.hid (by simp)
  have HLe : Hid ((l1 ++ l2).length ≤ l.length + 1) := Lib.hid (by rw [hs]; simp; omega)
  have HR := Lib.hid (hA.r.alloc (.cells #[.int .u8 1, .int .i64 (b : Int)] 30))
  have HRk := Lib.hid (hA.rk.alloc (.cells #[.int .u8 1, .int .i64 (b : Int)] 30))
  have HG := Lib.hid (hA.gr.alloc (.cells #[.int .u8 1, .int .i64 (b : Int)] 30))
  have HT : Hid (Touch (inG p) w (w.alloc (.cells #[.int .u8 1, .int .i64 (b : Int)] 30))) := Lib.hid (Touch.of_below (below_new w _))
  have HBk := Lib.hid (Blk.new w #[.int .u8 1, .int .i64 (b : Int)] 30)
  have HNo : Hid (¬ inG p w.heap.size) := Lib.hid (fun hx => by have := hA.gr.ofG_lt (Or.inr hx); omega)
  clear hA H hin hs
  go_enter Try.func8, Try.ntmps8
  have HT0 : Hid (Touch (inG p) w w) := Lib.hid (Touch.refl _ _)
  have cHBk0 := HBk.out.cell 0 rfl
  have cHBk1 := HBk.out.cell 1 rfl
  go_wp2_with fail
  refine (rHas a cap l b _ HR.out HA.out.hl).mono ?_
  rw [HI.out]
  rintro e wm0 ⟨rfl, rfl⟩
  go_wp2_with fail
  refine (gmeter_any p (cfR n) s _ HG.out).mono ?_
  rintro e wm0 ⟨rfl, rfl⟩
  go_wp2_with fail
  refine (HD.out s.m _ HG.out).mono ?_
  rintro e wm1 ⟨rfl, hG, hT⟩
  have HG1 := Lib.hid hG
  have HT1 : Hid (Touch (inG p) _ wm1) := Lib.hid (HT.out.trans hT)
  have HR1 := Lib.hid (HR.out.touch hT HA.out.o)
  have HRk1 := Lib.hid (HRk.out.touch hT HA.out.ok)
  have HBk1 := Lib.hid (HBk.out.touch hT HNo.out)
  clear hG hT
  clear cHBk0 cHBk1
  have cHBk0 := HBk1.out.cell 0 rfl
  have cHBk1 := HBk1.out.cell 1 rfl
  go_wp2_with fail
  refine (gmeter_any p (cfR n) _ _ HG1.out).mono ?_
  rintro e wm0 ⟨rfl, rfl⟩
  have HGp := Lib.hid HG1.out
  go_wp2_with fail
  refine (rWithout a cap l (l1 ++ l2) b _ HR1.out HA.out.hl HF.out).mono ?_
  rintro e wm2 ⟨a', cap', rfl, hr', hf', hb⟩
  have HG2 := Lib.hid (HG1.out.later hb)
  have HT2 : Hid (Touch (inG p) _ wm2) := Lib.hid (HT1.out.trans (Touch.of_below hb))
  have HR2 := Lib.hid (HR1.out.later hb)
  have HRk2 := Lib.hid (HRk1.out.later hb)
  have HBk2 := Lib.hid (HBk1.out.later hb)
  clear hb
  clear cHBk0 cHBk1
  have cHBk0 := HBk2.out.cell 0 rfl
  have cHBk1 := HBk2.out.cell 1 rfl
  have HR' := Lib.hid hr'
  have HO' := Lib.hid (fresh_outG (zs := ints (l1 ++ l2)) HGp.out hf')
  clear hr' hf'
  go_wp2_with fail
  go_ret2
  exact ⟨l1 ++ l2, a', cap', _, by rw [EL.out]; rfl, HG2.out, HLk.out, HR'.out, HO'.out, HLe.out, HT2.out⟩


set_option maxHeartbeats 1000000 in
theorem rdo_cut_no (F : RingFns) (p : Pl) (n : Nat) (s : St) (ks : List Int) (l : List Nat) (ak a : Option Addr) (ck cap : Nat) (b : Int) (hi : hasB (ints l) b = false) (w : World) (hA : AtR w p n s ks l ak a) :
    Calls Try.prog 8 #[.pointer (some ⟨p.a, 0, none⟩), .slice ak n ck, .slice a l.length cap, .agg #[.int .u8 1, .int .i64 b]] w (DoR w p (cfR n) ks l) := by
  have HA := Lib.hid hA
  obtain ⟨d, hdB, H⟩ := F.cut_no (cfR n) s.zs l b hA.gr.wz hA.like.ring hi
  have HD := Lib.hid (fun m w hG => H p m w hG)
  have hdw := u64m_add s.m d (by omega)
  have HI := Lib.hid hi
  have HF := Lib.hid (filter_none hi)
  have HR := Lib.hid (hA.r.alloc (.cells #[.int .u8 1, .int .i64 b] 30))
  have HRk := Lib.hid (hA.rk.alloc (.cells #[.int .u8 1, .int .i64 b] 30))
  have HG := Lib.hid (hA.gr.alloc (.cells #[.int .u8 1, .int .i64 b] 30))
  have HT : Hid (Touch (inG p) w (w.alloc (.cells #[.int .u8 1, .int .i64 b] 30))) := Lib.hid (Touch.of_below (below_new w _))
  have HBk := Lib.hid (Blk.new w #[.int .u8 1, .int .i64 b] 30)
  have HNo : Hid (¬ inG p w.heap.size) := Lib.hid (fun hx => by have := hA.gr.ofG_lt (Or.inr hx); omega)
  clear hA H hi
  go_enter Try.func8, Try.ntmps8
  have HT0 : Hid (Touch (inG p) w w) := Lib.hid (Touch.refl _ _)
  have cHBk0 := HBk.out.cell 0 rfl
  have cHBk1 := HBk.out.cell 1 rfl
  go_wp2_with fail
  refine (rHas a cap l b _ HR.out HA.out.hl).mono ?_
  rw [HI.out]
  rintro e wm0 ⟨rfl, rfl⟩
  go_wp2_with fail
  refine (gmeter_any p (cfR n) s _ HG.out).mono ?_
  rintro e wm0 ⟨rfl, rfl⟩
  go_wp2_with fail
  refine (HD.out s.m _ HG.out).mono ?_
  rintro e wm1 ⟨rfl, hG, hT⟩
  have HG1 := Lib.hid hG
  have HT1 : Hid (Touch (inG p) _ wm1) := Lib.hid (HT.out.trans hT)
  have HR1 := Lib.hid (HR.out.touch hT HA.out.o)
  have HRk1 := Lib.hid (HRk.out.touch hT HA.out.ok)
  have HBk1 := Lib.hid (HBk.out.touch hT HNo.out)
  clear hG hT
  clear cHBk0 cHBk1
  have cHBk0 := HBk1.out.cell 0 rfl
  have cHBk1 := HBk1.out.cell 1 rfl
  go_wp2_with fail
  refine (gmeter_any p (cfR n) _ _ HG1.out).mono ?_
  rintro e wm0 ⟨rfl, rfl⟩
  have HGp := Lib.hid HG1.out
  go_wp2_with fail
  refine (rWithout a cap l l b _ HR1.out HA.out.hl HF.out).mono ?_
  rintro e wm2 ⟨a', cap', rfl, hr', hf', hb⟩
  have HG2 := Lib.hid (HG1.out.later hb)
  have HT2 : Hid (Touch (inG p) _ wm2) := Lib.hid (HT1.out.trans (Touch.of_below hb))
  have HR2 := Lib.hid (HR1.out.later hb)
  have HRk2 := Lib.hid (HRk1.out.later hb)
  have HBk2 := Lib.hid (HBk1.out.later hb)
  clear hb
  clear cHBk0 cHBk1
  have cHBk0 := HBk2.out.cell 0 rfl
  have cHBk1 := HBk2.out.cell 1 rfl
  have HR' := Lib.hid hr'
  have HO' := Lib.hid (fresh_outG (zs := ints l) HGp.out hf')
  clear hr' hf'
  go_wp2_with fail
  go_ret2
  exact ⟨l, a', cap', _, rfl, HG2.out, HA.out.like, HR'.out, HO'.out, by omega, HT2.out⟩


set_option maxHeartbeats 1000000 in
theorem rdo_take_no (F : RingFns) (p : Pl) (n : Nat) (s : St) (ks : List Int) (l : List Nat) (ak a : Option Addr) (ck cap : Nat) (b : Int) (he : l = []) (w : World) (hA : AtR w p n s ks l ak a) :
    Calls Try.prog 8 #[.pointer (some ⟨p.a, 0, none⟩), .slice ak n ck, .slice a l.length cap, .agg #[.int .u8 2, .int .i64 b]] w (DoR w p (cfR n) ks l) := by
  have HA := Lib.hid hA
  obtain ⟨d, hdB, H⟩ := F.take_no (cfR n) s.zs hA.gr.wz (by rw [← he]; exact hA.like.ring)
  have HD := Lib.hid (fun m w hG => H p m w hG)
  have hdw := u64m_add s.m d (by omega)
  have HE := Lib.hid (show l.length = 0 by rw [he]; rfl)
  have hz : ((l.length : Int) == 0) = true := by rw [HE.out]; rfl
  have HR := Lib.hid (hA.r.alloc (.cells #[.int .u8 2, .int .i64 b] 30))
  have HRk := Lib.hid (hA.rk.alloc (.cells #[.int .u8 2, .int .i64 b] 30))
  have HG := Lib.hid (hA.gr.alloc (.cells #[.int .u8 2, .int .i64 b] 30))
  have HT : Hid (Touch (inG p) w (w.alloc (.cells #[.int .u8 2, .int .i64 b] 30))) := Lib.hid (Touch.of_below (below_new w _))
  have HBk := Lib.hid (Blk.new w #[.int .u8 2, .int .i64 b] 30)
  have HNo : Hid (¬ inG p w.heap.size) := Lib.hid (fun hx => by have := hA.gr.ofG_lt (Or.inr hx); omega)
  clear hA H he
  go_enter Try.func8, Try.ntmps8
  have HT0 : Hid (Touch (inG p) w w) := Lib.hid (Touch.refl _ _)
  have cHBk0 := HBk.out.cell 0 rfl
  have cHBk1 := HBk.out.cell 1 rfl
  go_wp2_with fail
  refine (rHas a cap l b _ HR.out HA.out.hl).mono ?_
  rintro e wm0 ⟨rfl, rfl⟩
  go_wp2_with fail
  refine (gmeter_any p (cfR n) s _ HG.out).mono ?_
  rintro e wm0 ⟨rfl, rfl⟩
  go_wp2_with fail
  refine (HD.out s.m _ HG.out).mono ?_
  rintro e wm1 ⟨rfl, hG, hT⟩
  have HG1 := Lib.hid hG
  have HT1 : Hid (Touch (inG p) _ wm1) := Lib.hid (HT.out.trans hT)
  have HR1 := Lib.hid (HR.out.touch hT HA.out.o)
  have HRk1 := Lib.hid (HRk.out.touch hT HA.out.ok)
  have HBk1 := Lib.hid (HBk.out.touch hT HNo.out)
  clear hG hT
  clear cHBk0 cHBk1
  have cHBk0 := HBk1.out.cell 0 rfl
  have cHBk1 := HBk1.out.cell 1 rfl
  go_wp2_with fail
  go_ret2
  exact ⟨l, a, cap, _, rfl, HG1.out, HA.out.like, HR1.out, HA.out.o, by omega, HT1.out⟩


set_option maxHeartbeats 1000000 in
theorem rdo_look (F : RingFns) (p : Pl) (n : Nat) (s : St) (ks : List Int) (l : List Nat) (ak a : Option Addr) (ck cap : Nat) (kind b : Int) (k0 : (kind == 0) = false) (k1 : (kind == 1) = false) (k2 : (kind == 2) = false) (w : World) (hA : AtR w p n s ks l ak a) :
    Calls Try.prog 8 #[.pointer (some ⟨p.a, 0, none⟩), .slice ak n ck, .slice a l.length cap, .agg #[.int .u8 kind, .int .i64 b]] w (DoR w p (cfR n) ks l) := by
  have HA := Lib.hid hA
  obtain ⟨d, hdB, H⟩ := F.len (cfR n) s.zs l hA.gr.wz hA.like.ring
  have HD := Lib.hid (fun m w hG => H p m w hG)
  obtain ⟨d2, hdB2, H2⟩ := F.has (cfR n) s.zs l b hA.gr.wz hA.like.ring
  have HD2 := Lib.hid (fun m w hG => H2 p m w hG)
  have hdw := u64m_add s.m (d + d2) (by omega)
  rw [← Nat.add_assoc] at hdw
  have hle : (d : Int) + (d2 : Int) ≤ 48 := by omega
  have HR := Lib.hid (hA.r.alloc (.cells #[.int .u8 kind, .int .i64 b] 30))
  have HRk := Lib.hid (hA.rk.alloc (.cells #[.int .u8 kind, .int .i64 b] 30))
  have HG := Lib.hid (hA.gr.alloc (.cells #[.int .u8 kind, .int .i64 b] 30))
  have HT : Hid (Touch (inG p) w (w.alloc (.cells #[.int .u8 kind, .int .i64 b] 30))) := Lib.hid (Touch.of_below (below_new w _))
  have HBk := Lib.hid (Blk.new w #[.int .u8 kind, .int .i64 b] 30)
  have HNo : Hid (¬ inG p w.heap.size) := Lib.hid (fun hx => by have := hA.gr.ofG_lt (Or.inr hx); omega)
  clear hA H H2
  go_enter Try.func8, Try.ntmps8
  have HT0 : Hid (Touch (inG p) w w) := Lib.hid (Touch.refl _ _)
  have cHBk0 := HBk.out.cell 0 rfl
  have cHBk1 := HBk.out.cell 1 rfl
  go_wp2_with fail
  refine (rHas a cap l b _ HR.out HA.out.hl).mono ?_
  rintro e wm0 ⟨rfl, rfl⟩
  go_wp2_with fail
  refine (gmeter_any p (cfR n) s _ HG.out).mono ?_
  rintro e wm0 ⟨rfl, rfl⟩
  go_wp2_with fail
  refine (HD.out s.m _ HG.out).mono ?_
  rintro e wm1 ⟨rfl, hG, hT⟩
  have HG1 := Lib.hid hG
  have HT1 : Hid (Touch (inG p) _ wm1) := Lib.hid (HT.out.trans hT)
  have HR1 := Lib.hid (HR.out.touch hT HA.out.o)
  have HRk1 := Lib.hid (HRk.out.touch hT HA.out.ok)
  have HBk1 := Lib.hid (HBk.out.touch hT HNo.out)
  clear hG hT
  clear cHBk0 cHBk1
  have cHBk0 := HBk1.out.cell 0 rfl
  have cHBk1 := HBk1.out.cell 1 rfl
  go_wp2_with fail
  refine (HD2.out (s.m + d) _ HG1.out).mono ?_
  rintro e wm2 ⟨rfl, hG, hT⟩
  have HG2 := Lib.hid hG
  have HT2 : Hid (Touch (inG p) _ wm2) := Lib.hid (HT1.out.trans hT)
  have HR2 := Lib.hid (HR1.out.touch hT HA.out.o)
  have HRk2 := Lib.hid (HRk1.out.touch hT HA.out.ok)
  have HBk2 := Lib.hid (HBk1.out.touch hT HNo.out)
  clear hG hT
  clear cHBk0 cHBk1
  have cHBk0 := HBk2.out.cell 0 rfl
  have cHBk1 := HBk2.out.cell 1 rfl
  go_wp2_with fail
  refine (gmeter_any p (cfR n) _ _ HG2.out).mono ?_
  rintro e wm0 ⟨rfl, rfl⟩
  go_wp2_with fail
  go_ret2
  exact ⟨l, a, cap, _, rfl, HG2.out, HA.out.like, HR2.out, HA.out.o, by omega, HT2.out⟩


set_option maxHeartbeats 1000000 in
theorem rdo_take_yes (F : RingFns) (p : Pl) (n : Nat) (s : St) (ks : List Int) (ak a : Option Addr) (ck cap : Nat) (b : Int) (x : Nat) (t : List Nat) (w : World) (hA : AtR w p n s ks (x :: t) ak a) :
    Calls Try.prog 8 #[.pointer (some ⟨p.a, 0, none⟩), .slice ak n ck, .slice a (x :: t).length cap, .agg #[.int .u8 2, .int .i64 b]] w (DoR w p (cfR n) ks (x :: t)) := by
  have HA := Lib.hid hA
  obtain ⟨d, hdB, H⟩ := F.take_yes (cfR n) s.zs t x hA.gr.wz hA.like.ring
  have HD := Lib.hid (fun m w hG => H p m w hG)
  have hdw := u64m_add s.m d (by omega)
  have hle : (d : Int) ≤ 24 := by omega
  have hz : (((x :: t).length : Int) == 0) = false := by rw [beq_eq_false_iff_ne]; simp; omega
  have HLk : Hid (LikeR (cfR n) ks t (ringCutZ (cfR n) x s.zs)) := Lib.hid (LikeR.cut (l1 := []) hA.like hA.gr.may hA.gr.len)
  obtain ⟨g0, o0, rfl, hg0, hc0⟩ := hA.r 0 (by simp [ints])
  have HR := Lib.hid (hA.r.alloc (.cells #[.int .u8 2, .int .i64 b] 30))
  have HRk := Lib.hid (hA.rk.alloc (.cells #[.int .u8 2, .int .i64 b] 30))
  have HG := Lib.hid (hA.gr.alloc (.cells #[.int .u8 2, .int .i64 b] 30))
  have HT : Hid (Touch (inG p) w (w.alloc (.cells #[.int .u8 2, .int .i64 b] 30))) := Lib.hid (Touch.of_below (below_new w _))
  have HBk := Lib.hid (Blk.new w #[.int .u8 2, .int .i64 b] 30)
  have HNo : Hid (¬ inG p w.heap.size) := Lib.hid (fun hx => by have := hA.gr.ofG_lt (Or.inr hx); omega)
  clear hA H
  go_enter Try.func8, Try.ntmps8
  have HT0 : Hid (Touch (inG p) w w) := Lib.hid (Touch.refl _ _)
  have cHBk0 := HBk.out.cell 0 rfl
  have cHBk1 := HBk.out.cell 1 rfl
  go_wp2_with fail
  refine (rHas _ cap (x :: t) b _ HR.out HA.out.hl).mono ?_
  rintro e wm0 ⟨rfl, rfl⟩
  go_wp2_with fail
  refine (gmeter_any p (cfR n) s _ HG.out).mono ?_
  rintro e wm0 ⟨rfl, rfl⟩
  go_wp2_with fail
  refine (HD.out s.m _ HG.out).mono ?_
  rintro e wm1 ⟨rfl, hG, hT⟩
  have HG1 := Lib.hid hG
  have HT1 : Hid (Touch (inG p) _ wm1) := Lib.hid (HT.out.trans hT)
  have HR1 := Lib.hid (HR.out.touch hT HA.out.o)
  have HRk1 := Lib.hid (HRk.out.touch hT HA.out.ok)
  have HBk1 := Lib.hid (HBk.out.touch hT HNo.out)
  clear hG hT
  clear cHBk0 cHBk1
  have cHBk0 := HBk1.out.cell 0 rfl
  have cHBk1 := HBk1.out.cell 1 rfl
  go_wp2_with fail
  obtain ⟨g1, o1, e1, hg1, hc1⟩ := HR1.out 0 (by simp [ints])
  cases e1
  have hcur : Below (wm1).heap.size wm1 (wm1).drew := Drw.new ⟨1, rfl⟩
  have HC1 : Hid (∀ w', Below (wm1).heap.size wm1 w' → w'.cell? ⟨g0, o0, none⟩ = some (.int .i64 (x : Int))) := Lib.hid (fun w' h => (h.cell (p := ⟨g0, o0, none⟩) hg1).trans hc1)
  have z0 : (wm1).cell? ⟨g0, o0, none⟩ = some (.int .i64 (x : Int)) := hc1
  clear hc1 hc0
  go_region_held3 (fun w' => w'.cell? ⟨g0, o0, none⟩ = some (.int .i64 (x : Int))) (exact z0) (first | (go_at_call 27; refine (rRest (some ⟨g0, o0, none⟩) cap x t _ (HR1.out.later hcur) HA.out.hl).mono ?_; rintro e w5 ⟨a', cap', rfl, hr', hf', hb⟩; have HO' := Lib.hid (fresh_outG (zs := ints t) (HG1.out.later hcur) hf'); have hcur5 := below_step hcur hb; have z0 := HC1.out _ hcur5; have HR' := Lib.hid hr'; have HG5 := Lib.hid (HG1.out.later hcur5); clear hr' hf' hb) | (go_at_call 9; refine (gmeter_any p (cfR n) _ _ HG5.out).mono ?_; rintro e w6 ⟨rfl, rfl⟩))
  all_goals
    go_wp2_with fail
    go_ret2
    exact ⟨t, a', cap', _, rfl, HG5.out, HLk.out, HR'.out, HO'.out, by simp; omega, HT1.out.trans (Touch.of_below hcur5)⟩


end Go.Proofs.Ytdiegmbaiibndaa.Pk
