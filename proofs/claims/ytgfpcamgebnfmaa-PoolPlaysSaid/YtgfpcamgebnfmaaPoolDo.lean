/-
  Layer 10: the law's act, case by case.
-/
import Derived.Test.YtgfpcamgebnfmaaPoolLaw
import Derived.Test.YtgfpcamgebnfmaaTame
import Derived.Deep.RegionHeld3
import Derived.BigQuiet
namespace Go.Proofs.Ytgfpcamgebnfmaa.Pk
open Go.RowKit
set_option linter.unusedVariables false
set_option linter.unusedSimpArgs false

/-- What lies there when an act begins. -/
structure AtP (w : World) (p : Pl) (c : Cf) (s : St) (l : List Nat) (a : Option Addr) : Prop where
  gr : G w p c s
  pool : PoolAt c s.zs l
  r : Row w .i64 a (ints l)
  o : RowOut (inG p) a (ints l)
  hN : c.N ≤ 5000
theorem AtP.hl {w : World} {p : Pl} {c : Cf} {s : St} {l : List Nat} {a : Option Addr} (h : AtP w p c s l a) : l.length ≤ 5000 := Nat.le_trans (nodup_len h.pool.ch.nd h.pool.ch.lt) h.hN
/-- What an act leaves. -/
def DoP (w : World) (p : Pl) (c : Cf) (e : Ending) (w' : World) : Prop :=
  ∃ l' a' cap' s', e = .returned (.tuple #[.slice a' (List.length l') cap', .bool true]) ∧ AtP w' p c s' l' a' ∧ Touch (inG p) w w'

set_option maxRecDepth 100000 in
set_option maxHeartbeats 1000000 in
theorem pdo_take_no (F : PoolFns) (p : Pl) (c : Cf) (s : St) (l : List Nat) (a : Option Addr) (cap : Nat) (b : Int) (he : l = []) (t0 t1 t2 t3 t4 t5 t6 x : Int) (w : World) (hA : AtP w p c s l a) (h0 : 0 ≤ x) (h1 : x ≤ 4294967295) :
    Calls Try.prog 12 #[.pointer (some ⟨p.a, 0, none⟩), .slice a l.length cap, .agg #[.int .u8 0, .int .i64 b, .int .i64 t0, .int .i64 t1, .int .i64 t2, .int .i64 t3, .int .i64 t4, .int .i64 t5, .int .i64 t6, .int .u32 x]] w (DoP w p c) := by
  have HA := Lib.hid hA
  have HL := Lib.hid hA.hl
  obtain ⟨d, hdB, H⟩ := F.take_no c s.zs hA.gr.wz (by rw [← he]; exact hA.pool.ch)
  have HD := Lib.hid (fun m w hG => H p m w hG)
  have hdw := u64m_add s.m d (by omega)
  have HE := Lib.hid (show l.length = 0 by rw [he]; rfl)
  have hz : ((l.length : Int) == 0) = true := by rw [HE.out]; rfl
  have HR := Lib.hid (hA.r.alloc (.cells #[.int .u8 0, .int .i64 b, .int .i64 t0, .int .i64 t1, .int .i64 t2, .int .i64 t3, .int .i64 t4, .int .i64 t5, .int .i64 t6, .int .u32 x] 38))
  have HG := Lib.hid (hA.gr.alloc (.cells #[.int .u8 0, .int .i64 b, .int .i64 t0, .int .i64 t1, .int .i64 t2, .int .i64 t3, .int .i64 t4, .int .i64 t5, .int .i64 t6, .int .u32 x] 38))
  have HT : Hid (Touch (inG p) w (w.alloc (.cells #[.int .u8 0, .int .i64 b, .int .i64 t0, .int .i64 t1, .int .i64 t2, .int .i64 t3, .int .i64 t4, .int .i64 t5, .int .i64 t6, .int .u32 x] 38))) := Lib.hid (Touch.of_below (below_new w _))
  have HBk := Lib.hid (Blk.new w #[.int .u8 0, .int .i64 b, .int .i64 t0, .int .i64 t1, .int .i64 t2, .int .i64 t3, .int .i64 t4, .int .i64 t5, .int .i64 t6, .int .u32 x] 38)
  have HNo : Hid (¬ inG p w.heap.size) := Lib.hid (fun hx => by have := hA.gr.ofG_lt (Or.inr hx); omega)
  clear hA H he
  go_enter Try.func12, Try.ntmps12
  go_wp2_with fail
  generalize hw0 : w.alloc (.cells #[.int .u8 0, .int .i64 b, .int .i64 t0, .int .i64 t1, .int .i64 t2, .int .i64 t3, .int .i64 t4, .int .i64 t5, .int .i64 t6, .int .u32 x] 38) = w0 at *
  clear hw0
  have HT0 : Hid (Touch (inG p) w w) := Lib.hid (Touch.refl _ _)
  have cHBk0 := HBk.out.cell 0 rfl
  have cHBk1 := HBk.out.cell 1 rfl
  refine (gmeter_any p c s _ HG.out).mono ?_
  rintro e wm0 ⟨rfl, rfl⟩
  go_wp2_with fail
  refine (HD.out s.m _ HG.out).mono ?_
  rintro e wm1 ⟨rfl, hG, hT⟩
  have HG1 := Lib.hid hG
  have HT1 : Hid (Touch (inG p) _ wm1) := Lib.hid (HT.out.trans hT)
  have HR1 := Lib.hid (HR.out.touch hT HA.out.o)
  have HBk1 := Lib.hid (HBk.out.touch hT HNo.out)
  clear hG hT
  clear cHBk0 cHBk1
  have cHBk0 := HBk1.out.cell 0 rfl
  have cHBk1 := HBk1.out.cell 1 rfl
  go_wp2_with fail
  go_ret2
  exact ⟨l, a, cap, _, rfl, ⟨HG1.out, HA.out.pool, HR1.out, HA.out.o, HA.out.hN⟩, HT1.out⟩


set_option maxRecDepth 100000 in
set_option maxHeartbeats 1000000 in
theorem pdo_take_yes (F : PoolFns) (p : Pl) (c : Cf) (s : St) (a : Option Addr) (cap : Nat) (b : Int) (y : Nat) (t : List Nat) (t0 t1 t2 t3 t4 t5 t6 x : Int) (w : World) (hA : AtP w p c s (y :: t) a) (h0 : 0 ≤ x) (h1 : x ≤ 4294967295) :
    Calls Try.prog 12 #[.pointer (some ⟨p.a, 0, none⟩), .slice a (y :: t).length cap, .agg #[.int .u8 0, .int .i64 b, .int .i64 t0, .int .i64 t1, .int .i64 t2, .int .i64 t3, .int .i64 t4, .int .i64 t5, .int .i64 t6, .int .u32 x]] w (DoP w p c) := by
  have HA := Lib.hid hA
  have HL := Lib.hid hA.hl
  have hW := hA.gr.may.w
  obtain ⟨d, hdB, H⟩ := F.take_yes c s.zs y t hA.gr.wz hA.pool.ch
  have HD := Lib.hid (fun m w hG => H p m w hG)
  have hdw := u64m_add s.m d (by omega)
  have hle : (d : Int) ≤ (c.W : Int) + 24 := by omega
  have hz : (((y :: t).length : Int) == 0) = false := by rw [beq_eq_false_iff_ne]; simp; omega
  have HPl := Lib.hid (hA.pool.take hA.gr.may hA.gr.len)
  have hy := hA.pool.ch.lt y (by simp)
  have HYt := Lib.hid (List.nodup_cons.1 hA.pool.ch.nd).1
  have HM := Lib.hid hA.gr.may
  have hfd := cfield1 (c.N : Int) (c.W : Int) (c.R : Int) (c.K : Int)
  have i1 : IntKind.i64.wrap ((c.W : Int) + 24) = (c.W : Int) + 24 := IntWalk.i64_in _ (by omega)
  have i2 : IntKind.u64.wrap ((c.W : Int) + 24) = (c.W : Int) + 24 := by rw [IntKind.wrap_u64]; omega
  obtain ⟨g0, o0, rfl, hg0, hc0⟩ := hA.r 0 (by simp [ints])
  have HC0 : Hid (∀ w', Row w' .i64 (some ⟨g0, o0, none⟩) (ints (y :: t)) → w'.cell? ⟨g0, o0, none⟩ = some (.int .i64 (y : Int))) := Lib.hid (fun w' h => by
    obtain ⟨g1, o1, e1, _, hc1⟩ := h 0 (by simp [ints])
    cases e1
    exact hc1)
  have HR := Lib.hid (hA.r.alloc (.cells #[.int .u8 0, .int .i64 b, .int .i64 t0, .int .i64 t1, .int .i64 t2, .int .i64 t3, .int .i64 t4, .int .i64 t5, .int .i64 t6, .int .u32 x] 38))
  have HG := Lib.hid (hA.gr.alloc (.cells #[.int .u8 0, .int .i64 b, .int .i64 t0, .int .i64 t1, .int .i64 t2, .int .i64 t3, .int .i64 t4, .int .i64 t5, .int .i64 t6, .int .u32 x] 38))
  have HT : Hid (Touch (inG p) w (w.alloc (.cells #[.int .u8 0, .int .i64 b, .int .i64 t0, .int .i64 t1, .int .i64 t2, .int .i64 t3, .int .i64 t4, .int .i64 t5, .int .i64 t6, .int .u32 x] 38))) := Lib.hid (Touch.of_below (below_new w _))
  have HBk := Lib.hid (Blk.new w #[.int .u8 0, .int .i64 b, .int .i64 t0, .int .i64 t1, .int .i64 t2, .int .i64 t3, .int .i64 t4, .int .i64 t5, .int .i64 t6, .int .u32 x] 38)
  have HNo : Hid (¬ inG p w.heap.size) := Lib.hid (fun hx => by have := hA.gr.ofG_lt (Or.inr hx); omega)
  clear hA H hc0
  go_enter Try.func12, Try.ntmps12
  go_wp2_with fail
  generalize hw0 : w.alloc (.cells #[.int .u8 0, .int .i64 b, .int .i64 t0, .int .i64 t1, .int .i64 t2, .int .i64 t3, .int .i64 t4, .int .i64 t5, .int .i64 t6, .int .u32 x] 38) = w0 at *
  clear hw0
  have HT0 : Hid (Touch (inG p) w w) := Lib.hid (Touch.refl _ _)
  have cHBk0 := HBk.out.cell 0 rfl
  have cHBk1 := HBk.out.cell 1 rfl
  have cHBk2 := HBk.out.cell 2 rfl
  have cHBk3 := HBk.out.cell 3 rfl
  have cHBk4 := HBk.out.cell 4 rfl
  have cHBk5 := HBk.out.cell 5 rfl
  have cHBk6 := HBk.out.cell 6 rfl
  have cHBk7 := HBk.out.cell 7 rfl
  have cHBk8 := HBk.out.cell 8 rfl
  have cHBk9 := HBk.out.cell 9 rfl
  refine (gmeter_any p c s _ HG.out).mono ?_
  rintro e wm0 ⟨rfl, rfl⟩
  go_wp2_with fail
  refine (HD.out s.m _ HG.out).mono ?_
  rintro e wm1 ⟨rfl, hG, hT⟩
  have HG1 := Lib.hid hG
  have HT1 : Hid (Touch (inG p) _ wm1) := Lib.hid (HT.out.trans hT)
  have HR1 := Lib.hid (HR.out.touch hT HA.out.o)
  have HBk1 := Lib.hid (HBk.out.touch hT HNo.out)
  clear hG hT
  clear cHBk0 cHBk1 cHBk2 cHBk3 cHBk4 cHBk5 cHBk6 cHBk7 cHBk8 cHBk9
  have cHBk0 := HBk1.out.cell 0 rfl
  have cHBk1 := HBk1.out.cell 1 rfl
  have cHBk2 := HBk1.out.cell 2 rfl
  have cHBk3 := HBk1.out.cell 3 rfl
  have cHBk4 := HBk1.out.cell 4 rfl
  have cHBk5 := HBk1.out.cell 5 rfl
  have cHBk6 := HBk1.out.cell 6 rfl
  have cHBk7 := HBk1.out.cell 7 rfl
  have cHBk8 := HBk1.out.cell 8 rfl
  have cHBk9 := HBk1.out.cell 9 rfl
  have y0 := HC0.out _ HR1.out
  go_wp2_with fail
  refine (wiped_any p c _ y _ HG1.out hy HPl.out.2).mono ?_
  rintro e wm2 ⟨rfl, hb⟩
  have HG2 := Lib.hid (HG1.out.later hb)
  have HT2 : Hid (Touch (inG p) _ wm2) := Lib.hid (HT1.out.trans (Touch.of_below hb))
  have HR2 := Lib.hid (HR1.out.later hb)
  have HBk2 := Lib.hid (HBk1.out.later hb)
  clear hb
  clear cHBk0 cHBk1 cHBk2 cHBk3 cHBk4 cHBk5 cHBk6 cHBk7 cHBk8 cHBk9
  have cHBk0 := HBk2.out.cell 0 rfl
  have cHBk1 := HBk2.out.cell 1 rfl
  have cHBk2 := HBk2.out.cell 2 rfl
  have cHBk3 := HBk2.out.cell 3 rfl
  have cHBk4 := HBk2.out.cell 4 rfl
  have cHBk5 := HBk2.out.cell 5 rfl
  have cHBk6 := HBk2.out.cell 6 rfl
  have cHBk7 := HBk2.out.cell 7 rfl
  have cHBk8 := HBk2.out.cell 8 rfl
  have cHBk9 := HBk2.out.cell 9 rfl
  go_wp2_with fail
  refine (gmeter_any p c _ _ HG2.out).mono ?_
  rintro e wm0 ⟨rfl, rfl⟩
  go_wp2_with fail
  refine (gconfC p c _ _ HG2.out).mono ?_
  rintro e wm3 ⟨rfl, hb⟩
  have HG3 := Lib.hid (HG2.out.later hb)
  have HT3 : Hid (Touch (inG p) _ wm3) := Lib.hid (HT2.out.trans (Touch.of_below hb))
  have HR3 := Lib.hid (HR2.out.later hb)
  have HBk3 := Lib.hid (HBk2.out.later hb)
  clear hb
  clear cHBk0 cHBk1 cHBk2 cHBk3 cHBk4 cHBk5 cHBk6 cHBk7 cHBk8 cHBk9
  have cHBk0 := HBk3.out.cell 0 rfl
  have cHBk1 := HBk3.out.cell 1 rfl
  have cHBk2 := HBk3.out.cell 2 rfl
  have cHBk3 := HBk3.out.cell 3 rfl
  have cHBk4 := HBk3.out.cell 4 rfl
  have cHBk5 := HBk3.out.cell 5 rfl
  have cHBk6 := HBk3.out.cell 6 rfl
  have cHBk7 := HBk3.out.cell 7 rfl
  have cHBk8 := HBk3.out.cell 8 rfl
  have cHBk9 := HBk3.out.cell 9 rfl
  go_wp2_with fail
  refine (use_any p c _ y 0 b t0 t1 t2 t3 t4 t5 t6 x _ HG3.out hy h0 h1).mono ?_
  rintro e wm4 ⟨rfl, s6, hG, hO6, hT⟩
  have HG4 := Lib.hid hG
  have HT4 : Hid (Touch (inG p) _ wm4) := Lib.hid (HT3.out.trans hT)
  have HR4 := Lib.hid (HR3.out.touch hT HA.out.o)
  have HBk4 := Lib.hid (HBk3.out.touch hT HNo.out)
  clear hG hT
  clear cHBk0 cHBk1 cHBk2 cHBk3 cHBk4 cHBk5 cHBk6 cHBk7 cHBk8 cHBk9
  have cHBk0 := HBk4.out.cell 0 rfl
  have cHBk1 := HBk4.out.cell 1 rfl
  have cHBk2 := HBk4.out.cell 2 rfl
  have cHBk3 := HBk4.out.cell 3 rfl
  have cHBk4 := HBk4.out.cell 4 rfl
  have cHBk5 := HBk4.out.cell 5 rfl
  have cHBk6 := HBk4.out.cell 6 rfl
  have cHBk7 := HBk4.out.cell 7 rfl
  have cHBk8 := HBk4.out.cell 8 rfl
  have cHBk9 := HBk4.out.cell 9 rfl
  have HO6 := Lib.hid hO6
  clear hO6
  have HGp := Lib.hid HG4.out
  go_wp2_with fail
  refine (rRest (some ⟨g0, o0, none⟩) cap y t _ HR4.out (by have := HL.out; omega)).mono ?_
  rintro e wm5 ⟨a', cap', rfl, hr', hf', hb⟩
  have HG5 := Lib.hid (HG4.out.later hb)
  have HT5 : Hid (Touch (inG p) _ wm5) := Lib.hid (HT4.out.trans (Touch.of_below hb))
  have HR5 := Lib.hid (HR4.out.later hb)
  have HBk5 := Lib.hid (HBk4.out.later hb)
  clear hb
  clear cHBk0 cHBk1 cHBk2 cHBk3 cHBk4 cHBk5 cHBk6 cHBk7 cHBk8 cHBk9
  have cHBk0 := HBk5.out.cell 0 rfl
  have cHBk1 := HBk5.out.cell 1 rfl
  have cHBk2 := HBk5.out.cell 2 rfl
  have cHBk3 := HBk5.out.cell 3 rfl
  have cHBk4 := HBk5.out.cell 4 rfl
  have cHBk5 := HBk5.out.cell 5 rfl
  have cHBk6 := HBk5.out.cell 6 rfl
  have cHBk7 := HBk5.out.cell 7 rfl
  have cHBk8 := HBk5.out.cell 8 rfl
  have cHBk9 := HBk5.out.cell 9 rfl
  have HR' := Lib.hid hr'
  have HO' := Lib.hid (fresh_outG (zs := ints t) HGp.out hf')
  clear hr' hf'
  go_wp2_with fail
  go_ret2
  exact ⟨t, a', cap', _, rfl, ⟨HG5.out, HPl.out.1.only HM.out HYt.out HO6.out, HR'.out, HO'.out, HA.out.hN⟩, HT5.out⟩


set_option maxRecDepth 100000 in
set_option maxHeartbeats 1000000 in
theorem pdo_give_neg (F : PoolFns) (p : Pl) (c : Cf) (s : St) (l : List Nat) (a : Option Addr) (cap : Nat) (b : Int) (hN : NoGive c s.zs b) (hb : b < 0) (t0 t1 t2 t3 t4 t5 t6 x : Int) (w : World) (hA : AtP w p c s l a) (h0 : 0 ≤ x) (h1 : x ≤ 4294967295) :
    Calls Try.prog 12 #[.pointer (some ⟨p.a, 0, none⟩), .slice a l.length cap, .agg #[.int .u8 1, .int .i64 b, .int .i64 t0, .int .i64 t1, .int .i64 t2, .int .i64 t3, .int .i64 t4, .int .i64 t5, .int .i64 t6, .int .u32 x]] w (DoP w p c) := by
  have HA := Lib.hid hA
  have HL := Lib.hid hA.hl
  obtain ⟨d, hdB, H⟩ := F.give_no c s.zs b hA.gr.wz hN
  have HD := Lib.hid (fun m w hG => H p m w hG)
  have hdw := u64m_add s.m d (by omega)
  have hb0 : decide (0 ≤ b) = false := by simp; omega
  have HR := Lib.hid (hA.r.alloc (.cells #[.int .u8 1, .int .i64 b, .int .i64 t0, .int .i64 t1, .int .i64 t2, .int .i64 t3, .int .i64 t4, .int .i64 t5, .int .i64 t6, .int .u32 x] 38))
  have HG := Lib.hid (hA.gr.alloc (.cells #[.int .u8 1, .int .i64 b, .int .i64 t0, .int .i64 t1, .int .i64 t2, .int .i64 t3, .int .i64 t4, .int .i64 t5, .int .i64 t6, .int .u32 x] 38))
  have HT : Hid (Touch (inG p) w (w.alloc (.cells #[.int .u8 1, .int .i64 b, .int .i64 t0, .int .i64 t1, .int .i64 t2, .int .i64 t3, .int .i64 t4, .int .i64 t5, .int .i64 t6, .int .u32 x] 38))) := Lib.hid (Touch.of_below (below_new w _))
  have HBk := Lib.hid (Blk.new w #[.int .u8 1, .int .i64 b, .int .i64 t0, .int .i64 t1, .int .i64 t2, .int .i64 t3, .int .i64 t4, .int .i64 t5, .int .i64 t6, .int .u32 x] 38)
  have HNo : Hid (¬ inG p w.heap.size) := Lib.hid (fun hx => by have := hA.gr.ofG_lt (Or.inr hx); omega)
  clear hA H hN
  go_enter Try.func12, Try.ntmps12
  go_wp2_with fail
  generalize hw0 : w.alloc (.cells #[.int .u8 1, .int .i64 b, .int .i64 t0, .int .i64 t1, .int .i64 t2, .int .i64 t3, .int .i64 t4, .int .i64 t5, .int .i64 t6, .int .u32 x] 38) = w0 at *
  clear hw0
  have HT0 : Hid (Touch (inG p) w w) := Lib.hid (Touch.refl _ _)
  have cHBk0 := HBk.out.cell 0 rfl
  have cHBk1 := HBk.out.cell 1 rfl
  refine (gmeter_any p c s _ HG.out).mono ?_
  rintro e wm0 ⟨rfl, rfl⟩
  go_wp2_with fail
  have z1 := fun w' (hC : Below (w0).heap.size w0 w') => (hC.cell (p := ⟨w.heap.size, 1, none⟩) (by have := HBk.out.lt; omega)).trans cHBk1
  refine wp_region_tame_all [Fact.is (.pointer (some ⟨w.heap.size, 1, none⟩)), Fact.is (.int .i64 b), Fact.is (.bool false), Fact.is (.bool false), Fact.is undef, Fact.is undef, Fact.is undef, Fact.is undef, Fact.is undef, Fact.is undef, Fact.is (.bool false), Fact.is (.bool false), Fact.is undef, Fact.is undef, Fact.is undef, Fact.is undef, Fact.is undef, Fact.is undef, Fact.is (.bool false), Fact.is (.bool false)] (by kernel_rfl) (by kernel_rfl) rfl (by kernel_rfl) (fun ops K2 hops hK => ?_)
  refine walkT_is (wantedN rfl) (fun w' hC hd => tame_1 5 (.pointer (some ⟨w.heap.size, 0, none⟩)) rfl (fun ρ hρ hf e0 => upon_is (by go_simp))) (by go_frame; rfl) (by simp only [List.nil_append, List.cons_append]; rfl) ?_
  refine walkT_is (wantedN rfl) (fun w' hC hd => tame_1 69 (.pointer (some ⟨w.heap.size, 1, none⟩)) rfl (fun ρ hρ hf e0 => upon_is (by have hc0 := z1 w' hC; go_simp))) (by go_frame; rfl) (by simp only [List.nil_append, List.cons_append]; rfl) ?_
  refine walkT_is (wantedN rfl) (fun w' hC hd => tame_1 70 (.int .i64 b) rfl (fun ρ hρ hf e0 => upon_is (by have hb0 := hb0; go_simp))) (by go_frame; rfl) (by simp only [List.nil_append, List.cons_append]; rfl) ?_
  refine walkT_is (wantedN rfl) (fun w' hC hd => tame_move _ (.inl rfl) rfl) (by go_frame; rfl) (by simp only [List.nil_append, List.cons_append]; rfl) ?_
  refine walkT_skip (wantedF hops rfl rfl rfl rfl) (by go_frame; rfl) (by simp only [List.nil_append, List.cons_append]; rfl) ?_
  refine walkT_skip (wantedF hops rfl rfl rfl rfl) (by go_frame; rfl) (by simp only [List.nil_append, List.cons_append]; rfl) ?_
  refine walkT_skip (wantedF hops rfl rfl rfl rfl) (by go_frame; rfl) (by simp only [List.nil_append, List.cons_append]; rfl) ?_
  refine walkT_skip (wantedF hops rfl rfl rfl rfl) (by go_frame; rfl) (by simp only [List.nil_append, List.cons_append]; rfl) ?_
  refine walkT_skip (wantedF hops rfl rfl rfl rfl) (by go_frame; rfl) (by simp only [List.nil_append, List.cons_append]; rfl) ?_
  refine walkT_skip (wantedF hops rfl rfl rfl rfl) (by go_frame; rfl) (by simp only [List.nil_append, List.cons_append]; rfl) ?_
  refine walkT_is (wantedN rfl) (fun w' hC hd => tame_pick _ _ _ false rfl rfl rfl) (by go_frame; rfl) (by simp only [List.nil_append, List.cons_append]; rfl) ?_
  refine walkT_is (wantedN rfl) (fun w' hC hd => tame_move _ (.inl rfl) rfl) (by go_frame; rfl) (by simp only [List.nil_append, List.cons_append]; rfl) ?_
  refine walkT_skip (wantedF hops rfl rfl rfl rfl) (by go_frame; rfl) (by simp only [List.nil_append, List.cons_append]; rfl) ?_
  refine walkT_skip (wantedF hops rfl rfl rfl rfl) (by go_frame; rfl) (by simp only [List.nil_append, List.cons_append]; rfl) ?_
  refine walkT_skip (wantedF hops rfl rfl rfl rfl) (by go_frame; rfl) (by simp only [List.nil_append, List.cons_append]; rfl) ?_
  refine walkT_skip (wantedF hops rfl rfl rfl rfl) (by go_frame; rfl) (by simp only [List.nil_append, List.cons_append]; rfl) ?_
  refine walkT_skip (wantedF hops rfl rfl rfl rfl) (by go_frame; rfl) (by simp only [List.nil_append, List.cons_append]; rfl) ?_
  refine walkT_skip (wantedF hops rfl rfl rfl rfl) (by go_frame; rfl) (by simp only [List.nil_append, List.cons_append]; rfl) ?_
  refine walkT_is (wantedN rfl) (fun w' hC hd => tame_pick _ _ _ false rfl rfl rfl) (by go_frame; rfl) (by simp only [List.nil_append, List.cons_append]; rfl) ?_
  refine walkT_is (wantedN rfl) (fun w' hC hd => tame_move _ (.inr rfl) rfl) (by go_frame; rfl) (by simp only [List.nil_append, List.cons_append]; rfl) ?_
  refine walkT_nil fun w12 hC12 _ => hK _ _ ?_
  have HG12 := Lib.hid (HG.out.later hC12)
  have HR12 := Lib.hid (HR.out.later hC12)
  have HBk12 := Lib.hid (HBk.out.later hC12)
  have HT12 : Hid (Touch (inG p) w w12) := Lib.hid (HT.out.trans (Touch.of_below hC12))
  clear z1 hC12 cHBk0 cHBk1
  have cHBk0 := HBk12.out.cell 0 rfl
  have cHBk1 := HBk12.out.cell 1 rfl
  go_wp2_with fail
  refine (HD.out s.m _ HG12.out).mono ?_
  rintro e wm1 ⟨rfl, hG, hT⟩
  have HG1 := Lib.hid hG
  have HT1 : Hid (Touch (inG p) _ wm1) := Lib.hid (HT12.out.trans hT)
  have HR1 := Lib.hid (HR12.out.touch hT HA.out.o)
  have HBk1 := Lib.hid (HBk12.out.touch hT HNo.out)
  clear hG hT
  clear cHBk0 cHBk1
  have cHBk0 := HBk1.out.cell 0 rfl
  have cHBk1 := HBk1.out.cell 1 rfl
  go_wp2_with fail
  refine (gmeter_any p c _ _ HG1.out).mono ?_
  rintro e wm0 ⟨rfl, rfl⟩
  go_wp2_with fail
  go_ret2
  exact ⟨l, a, cap, _, rfl, ⟨HG1.out, HA.out.pool, HR1.out, HA.out.o, HA.out.hN⟩, HT1.out⟩


set_option maxRecDepth 100000 in
set_option maxHeartbeats 1000000 in
theorem pdo_give_big (F : PoolFns) (p : Pl) (c : Cf) (s : St) (l : List Nat) (a : Option Addr) (cap : Nat) (b : Int) (hN : NoGive c s.zs b) (hb : (c.N : Int) ≤ b) (t0 t1 t2 t3 t4 t5 t6 x : Int) (w : World) (hA : AtP w p c s l a) (h0 : 0 ≤ x) (h1 : x ≤ 4294967295) :
    Calls Try.prog 12 #[.pointer (some ⟨p.a, 0, none⟩), .slice a l.length cap, .agg #[.int .u8 1, .int .i64 b, .int .i64 t0, .int .i64 t1, .int .i64 t2, .int .i64 t3, .int .i64 t4, .int .i64 t5, .int .i64 t6, .int .u32 x]] w (DoP w p c) := by
  have HA := Lib.hid hA
  have HL := Lib.hid hA.hl
  obtain ⟨d, hdB, H⟩ := F.give_no c s.zs b hA.gr.wz hN
  have HD := Lib.hid (fun m w hG => H p m w hG)
  have hdw := u64m_add s.m d (by omega)
  have hb0 : decide (0 ≤ b) = true := by simp; omega
  have hb1 : decide (b < (c.N : Int)) = false := by simp; omega
  have hfd := cfield0 (c.N : Int) (c.W : Int) (c.R : Int) (c.K : Int)
  have HR := Lib.hid (hA.r.alloc (.cells #[.int .u8 1, .int .i64 b, .int .i64 t0, .int .i64 t1, .int .i64 t2, .int .i64 t3, .int .i64 t4, .int .i64 t5, .int .i64 t6, .int .u32 x] 38))
  have HG := Lib.hid (hA.gr.alloc (.cells #[.int .u8 1, .int .i64 b, .int .i64 t0, .int .i64 t1, .int .i64 t2, .int .i64 t3, .int .i64 t4, .int .i64 t5, .int .i64 t6, .int .u32 x] 38))
  have HT : Hid (Touch (inG p) w (w.alloc (.cells #[.int .u8 1, .int .i64 b, .int .i64 t0, .int .i64 t1, .int .i64 t2, .int .i64 t3, .int .i64 t4, .int .i64 t5, .int .i64 t6, .int .u32 x] 38))) := Lib.hid (Touch.of_below (below_new w _))
  have HBk := Lib.hid (Blk.new w #[.int .u8 1, .int .i64 b, .int .i64 t0, .int .i64 t1, .int .i64 t2, .int .i64 t3, .int .i64 t4, .int .i64 t5, .int .i64 t6, .int .u32 x] 38)
  have HNo : Hid (¬ inG p w.heap.size) := Lib.hid (fun hx => by have := hA.gr.ofG_lt (Or.inr hx); omega)
  clear hA H hN
  go_enter Try.func12, Try.ntmps12
  go_wp2_with fail
  generalize hw0 : w.alloc (.cells #[.int .u8 1, .int .i64 b, .int .i64 t0, .int .i64 t1, .int .i64 t2, .int .i64 t3, .int .i64 t4, .int .i64 t5, .int .i64 t6, .int .u32 x] 38) = w0 at *
  clear hw0
  have HT0 : Hid (Touch (inG p) w w) := Lib.hid (Touch.refl _ _)
  have cHBk0 := HBk.out.cell 0 rfl
  have cHBk1 := HBk.out.cell 1 rfl
  refine (gmeter_any p c s _ HG.out).mono ?_
  rintro e wm0 ⟨rfl, rfl⟩
  have HGq := Lib.hid HG.out
  go_wp2_with fail
  have z1 := fun w' (hC : Below (w0).heap.size w0 w') => (hC.cell (p := ⟨w.heap.size, 1, none⟩) (by have := HBk.out.lt; omega)).trans cHBk1
  refine wp_region_tame_all [Fact.is (.pointer (some ⟨w.heap.size, 1, none⟩)), Fact.is (.int .i64 b), Fact.is (.bool true), Fact.is (.bool true), Fact.is (.pointer (some ⟨w.heap.size, 1, none⟩)), Fact.is (.int .i64 b), Fact.is (.pointer (some ⟨p.a, 0, none⟩)), Fact.is (.agg #[.int .i64 (c.N : Int), .int .i64 (c.W : Int), .int .i64 (c.R : Int), .int .i64 (c.K : Int)]), Fact.is (.int .i64 ((c.N : Int))), Fact.is (.bool false), Fact.is (.bool false), Fact.is (.bool false), Fact.is undef, Fact.is undef, Fact.is undef, Fact.is undef, Fact.is undef, Fact.is undef, Fact.is (.bool false), Fact.is (.bool false)] (by kernel_rfl) (by kernel_rfl) rfl (by kernel_rfl) (fun ops K2 hops hK => ?_)
  refine walkT_is (wantedN rfl) (fun w' hC hd => tame_1 5 (.pointer (some ⟨w.heap.size, 0, none⟩)) rfl (fun ρ hρ hf e0 => upon_is (by go_simp))) (by go_frame; rfl) (by simp only [List.nil_append, List.cons_append]; rfl) ?_
  refine walkT_is (wantedN rfl) (fun w' hC hd => tame_1 69 (.pointer (some ⟨w.heap.size, 1, none⟩)) rfl (fun ρ hρ hf e0 => upon_is (by have hc0 := z1 w' hC; go_simp))) (by go_frame; rfl) (by simp only [List.nil_append, List.cons_append]; rfl) ?_
  refine walkT_is (wantedN rfl) (fun w' hC hd => tame_1 70 (.int .i64 b) rfl (fun ρ hρ hf e0 => upon_is (by have hb0 := hb0; go_simp))) (by go_frame; rfl) (by simp only [List.nil_append, List.cons_append]; rfl) ?_
  refine walkT_is (wantedN rfl) (fun w' hC hd => tame_move _ (.inl rfl) rfl) (by go_frame; rfl) (by simp only [List.nil_append, List.cons_append]; rfl) ?_
  refine walkT_is (wantedT hops rfl rfl rfl rfl) (fun w' hC hd => tame_1 5 (.pointer (some ⟨w.heap.size, 0, none⟩)) rfl (fun ρ hρ hf e0 => upon_is (by go_simp))) (by go_frame; rfl) (by simp only [List.nil_append, List.cons_append]; rfl) ?_
  refine walkT_is (wantedT hops rfl rfl rfl rfl) (fun w' hC hd => tame_1 73 (.pointer (some ⟨w.heap.size, 1, none⟩)) rfl (fun ρ hρ hf e0 => upon_is (by have hc0 := z1 w' hC; go_simp))) (by go_frame; rfl) (by simp only [List.nil_append, List.cons_append]; rfl) ?_
  refine walkT_is (wantedT hops rfl rfl rfl rfl) (fun w' hC hd => tame_move _ (.inl rfl) rfl) (by go_frame; rfl) (by simp only [List.nil_append, List.cons_append]; rfl) ?_
  refine walkT_is (wantedT hops rfl rfl rfl rfl) (fun w' hC hd => tame_1 75 (.pointer (some ⟨p.a, 0, none⟩)) rfl (fun ρ hρ hf e0 => upon_call_below (f := 22) (by go_simp) (gconfC p c s w' (HGq.out.later hC)))) (by go_frame; rfl) (by simp only [List.nil_append, List.cons_append]; rfl) ?_
  refine walkT_is (wantedT hops rfl rfl rfl rfl) (fun w' hC hd => tame_1 76 (.agg #[.int .i64 (c.N : Int), .int .i64 (c.W : Int), .int .i64 (c.R : Int), .int .i64 (c.K : Int)]) rfl (fun ρ hρ hf e0 => upon_is (by have hb0 := hfd w'; go_simp))) (by go_frame; rfl) (by simp only [List.nil_append, List.cons_append]; rfl) ?_
  refine walkT_is (wantedT hops rfl rfl rfl rfl) (fun w' hC hd => tame_2 74 (.int .i64 b) 77 (.int .i64 ((c.N : Int))) rfl rfl (fun ρ hρ hf e0 e1 => upon_is (by have hb0 := hb1; go_simp))) (by go_frame; rfl) (by simp only [List.nil_append, List.cons_append]; rfl) ?_
  refine walkT_is (wantedN rfl) (fun w' hC hd => tame_pick _ _ _ true rfl rfl rfl) (by go_frame; rfl) (by simp only [List.nil_append, List.cons_append]; rfl) ?_
  refine walkT_is (wantedN rfl) (fun w' hC hd => tame_move _ (.inl rfl) rfl) (by go_frame; rfl) (by simp only [List.nil_append, List.cons_append]; rfl) ?_
  refine walkT_skip (wantedF hops rfl rfl rfl rfl) (by go_frame; rfl) (by simp only [List.nil_append, List.cons_append]; rfl) ?_
  refine walkT_skip (wantedF hops rfl rfl rfl rfl) (by go_frame; rfl) (by simp only [List.nil_append, List.cons_append]; rfl) ?_
  refine walkT_skip (wantedF hops rfl rfl rfl rfl) (by go_frame; rfl) (by simp only [List.nil_append, List.cons_append]; rfl) ?_
  refine walkT_skip (wantedF hops rfl rfl rfl rfl) (by go_frame; rfl) (by simp only [List.nil_append, List.cons_append]; rfl) ?_
  refine walkT_skip (wantedF hops rfl rfl rfl rfl) (by go_frame; rfl) (by simp only [List.nil_append, List.cons_append]; rfl) ?_
  refine walkT_skip (wantedF hops rfl rfl rfl rfl) (by go_frame; rfl) (by simp only [List.nil_append, List.cons_append]; rfl) ?_
  refine walkT_is (wantedN rfl) (fun w' hC hd => tame_pick _ _ _ false rfl rfl rfl) (by go_frame; rfl) (by simp only [List.nil_append, List.cons_append]; rfl) ?_
  refine walkT_is (wantedN rfl) (fun w' hC hd => tame_move _ (.inr rfl) rfl) (by go_frame; rfl) (by simp only [List.nil_append, List.cons_append]; rfl) ?_
  refine walkT_nil fun w12 hC12 _ => hK _ _ ?_
  have HG12 := Lib.hid (HG.out.later hC12)
  have HR12 := Lib.hid (HR.out.later hC12)
  have HBk12 := Lib.hid (HBk.out.later hC12)
  have HT12 : Hid (Touch (inG p) w w12) := Lib.hid (HT.out.trans (Touch.of_below hC12))
  clear z1 hC12 cHBk0 cHBk1
  have cHBk0 := HBk12.out.cell 0 rfl
  have cHBk1 := HBk12.out.cell 1 rfl
  go_wp2_with fail
  refine (HD.out s.m _ HG12.out).mono ?_
  rintro e wm1 ⟨rfl, hG, hT⟩
  have HG1 := Lib.hid hG
  have HT1 : Hid (Touch (inG p) _ wm1) := Lib.hid (HT12.out.trans hT)
  have HR1 := Lib.hid (HR12.out.touch hT HA.out.o)
  have HBk1 := Lib.hid (HBk12.out.touch hT HNo.out)
  clear hG hT
  clear cHBk0 cHBk1
  have cHBk0 := HBk1.out.cell 0 rfl
  have cHBk1 := HBk1.out.cell 1 rfl
  go_wp2_with fail
  refine (gmeter_any p c _ _ HG1.out).mono ?_
  rintro e wm0 ⟨rfl, rfl⟩
  go_wp2_with fail
  go_ret2
  exact ⟨l, a, cap, _, rfl, ⟨HG1.out, HA.out.pool, HR1.out, HA.out.o, HA.out.hN⟩, HT1.out⟩


set_option maxRecDepth 100000 in
set_option maxHeartbeats 1000000 in
theorem pdo_give_free (F : PoolFns) (p : Pl) (c : Cf) (s : St) (l : List Nat) (a : Option Addr) (cap : Nat) (b : Nat) (y : Int) (hN : NoGive c s.zs (b : Int)) (hb : b < c.N) (hy : nth s.zs (adr c b 0) = y) (hk : uK y = 0) (t0 t1 t2 t3 t4 t5 t6 x : Int) (w : World) (hA : AtP w p c s l a) (h0 : 0 ≤ x) (h1 : x ≤ 4294967295) :
    Calls Try.prog 12 #[.pointer (some ⟨p.a, 0, none⟩), .slice a l.length cap, .agg #[.int .u8 1, .int .i64 (b : Int), .int .i64 t0, .int .i64 t1, .int .i64 t2, .int .i64 t3, .int .i64 t4, .int .i64 t5, .int .i64 t6, .int .u32 x]] w (DoP w p c) := by
  have HA := Lib.hid hA
  have HL := Lib.hid hA.hl
  obtain ⟨d, hdB, H⟩ := F.give_no c s.zs (b : Int) hA.gr.wz hN
  have HD := Lib.hid (fun m w hG => H p m w hG)
  have hdw := u64m_add s.m d (by omega)
  have HY := Lib.hid hy
  have hW := hA.gr.may.w
  have hy0 := hA.gr.wf (adr c b 0)
  rw [hy] at hy0
  have hb0 : decide ((0 : Int) ≤ (b : Int)) = true := by simp
  have hb1 : decide ((b : Int) < (c.N : Int)) = true := by simp; omega
  have hfd := cfield0 (c.N : Int) (c.W : Int) (c.R : Int) (c.K : Int)
  have hr1 : Int.tmod y 4 = 0 := by rw [Int.tmod_eq_emod_of_nonneg hy0.1]; exact hk
  have HR := Lib.hid (hA.r.alloc (.cells #[.int .u8 1, .int .i64 (b : Int), .int .i64 t0, .int .i64 t1, .int .i64 t2, .int .i64 t3, .int .i64 t4, .int .i64 t5, .int .i64 t6, .int .u32 x] 38))
  have HG := Lib.hid (hA.gr.alloc (.cells #[.int .u8 1, .int .i64 (b : Int), .int .i64 t0, .int .i64 t1, .int .i64 t2, .int .i64 t3, .int .i64 t4, .int .i64 t5, .int .i64 t6, .int .u32 x] 38))
  have HT : Hid (Touch (inG p) w (w.alloc (.cells #[.int .u8 1, .int .i64 (b : Int), .int .i64 t0, .int .i64 t1, .int .i64 t2, .int .i64 t3, .int .i64 t4, .int .i64 t5, .int .i64 t6, .int .u32 x] 38))) := Lib.hid (Touch.of_below (below_new w _))
  have HBk := Lib.hid (Blk.new w #[.int .u8 1, .int .i64 (b : Int), .int .i64 t0, .int .i64 t1, .int .i64 t2, .int .i64 t3, .int .i64 t4, .int .i64 t5, .int .i64 t6, .int .u32 x] 38)
  have HNo : Hid (¬ inG p w.heap.size) := Lib.hid (fun hx => by have := hA.gr.ofG_lt (Or.inr hx); omega)
  clear hA H hN hy hk
  go_enter Try.func12, Try.ntmps12
  go_wp2_with fail
  generalize hw0 : w.alloc (.cells #[.int .u8 1, .int .i64 (b : Int), .int .i64 t0, .int .i64 t1, .int .i64 t2, .int .i64 t3, .int .i64 t4, .int .i64 t5, .int .i64 t6, .int .u32 x] 38) = w0 at *
  clear hw0
  have HT0 : Hid (Touch (inG p) w w) := Lib.hid (Touch.refl _ _)
  have cHBk0 := HBk.out.cell 0 rfl
  have cHBk1 := HBk.out.cell 1 rfl
  refine (gmeter_any p c s _ HG.out).mono ?_
  rintro e wm0 ⟨rfl, rfl⟩
  have HGq := Lib.hid HG.out
  go_wp2_with fail
  have z1 := fun w' (hC : Below (w0).heap.size w0 w') => (hC.cell (p := ⟨w.heap.size, 1, none⟩) (by have := HBk.out.lt; omega)).trans cHBk1
  refine wp_region_tame_all [Fact.is (.pointer (some ⟨w.heap.size, 1, none⟩)), Fact.is (.int .i64 ((b : Int))), Fact.is (.bool true), Fact.is (.bool true), Fact.is (.pointer (some ⟨w.heap.size, 1, none⟩)), Fact.is (.int .i64 ((b : Int))), Fact.is (.pointer (some ⟨p.a, 0, none⟩)), Fact.is (.agg #[.int .i64 (c.N : Int), .int .i64 (c.W : Int), .int .i64 (c.R : Int), .int .i64 (c.K : Int)]), Fact.is (.int .i64 ((c.N : Int))), Fact.is (.bool true), Fact.is (.bool true), Fact.is (.bool true), Fact.is (.pointer (some ⟨p.a, 0, none⟩)), Fact.is (.pointer (some ⟨w.heap.size, 1, none⟩)), Fact.is (.int .i64 ((b : Int))), Fact.is (.int .u32 y), Fact.is (.int .u32 0), Fact.is (.bool false), Fact.is (.bool false), Fact.is (.bool false)] (by kernel_rfl) (by kernel_rfl) rfl (by kernel_rfl) (fun ops K2 hops hK => ?_)
  refine walkT_is (wantedN rfl) (fun w' hC hd => tame_1 5 (.pointer (some ⟨w.heap.size, 0, none⟩)) rfl (fun ρ hρ hf e0 => upon_is (by go_simp))) (by go_frame; rfl) (by simp only [List.nil_append, List.cons_append]; rfl) ?_
  refine walkT_is (wantedN rfl) (fun w' hC hd => tame_1 69 (.pointer (some ⟨w.heap.size, 1, none⟩)) rfl (fun ρ hρ hf e0 => upon_is (by have hc0 := z1 w' hC; go_simp))) (by go_frame; rfl) (by simp only [List.nil_append, List.cons_append]; rfl) ?_
  refine walkT_is (wantedN rfl) (fun w' hC hd => tame_1 70 (.int .i64 ((b : Int))) rfl (fun ρ hρ hf e0 => upon_is (by have hb0 := hb0; go_simp))) (by go_frame; rfl) (by simp only [List.nil_append, List.cons_append]; rfl) ?_
  refine walkT_is (wantedN rfl) (fun w' hC hd => tame_move _ (.inl rfl) rfl) (by go_frame; rfl) (by simp only [List.nil_append, List.cons_append]; rfl) ?_
  refine walkT_is (wantedT hops rfl rfl rfl rfl) (fun w' hC hd => tame_1 5 (.pointer (some ⟨w.heap.size, 0, none⟩)) rfl (fun ρ hρ hf e0 => upon_is (by go_simp))) (by go_frame; rfl) (by simp only [List.nil_append, List.cons_append]; rfl) ?_
  refine walkT_is (wantedT hops rfl rfl rfl rfl) (fun w' hC hd => tame_1 73 (.pointer (some ⟨w.heap.size, 1, none⟩)) rfl (fun ρ hρ hf e0 => upon_is (by have hc0 := z1 w' hC; go_simp))) (by go_frame; rfl) (by simp only [List.nil_append, List.cons_append]; rfl) ?_
  refine walkT_is (wantedT hops rfl rfl rfl rfl) (fun w' hC hd => tame_move _ (.inl rfl) rfl) (by go_frame; rfl) (by simp only [List.nil_append, List.cons_append]; rfl) ?_
  refine walkT_is (wantedT hops rfl rfl rfl rfl) (fun w' hC hd => tame_1 75 (.pointer (some ⟨p.a, 0, none⟩)) rfl (fun ρ hρ hf e0 => upon_call_below (f := 22) (by go_simp) (gconfC p c s w' (HGq.out.later hC)))) (by go_frame; rfl) (by simp only [List.nil_append, List.cons_append]; rfl) ?_
  refine walkT_is (wantedT hops rfl rfl rfl rfl) (fun w' hC hd => tame_1 76 (.agg #[.int .i64 (c.N : Int), .int .i64 (c.W : Int), .int .i64 (c.R : Int), .int .i64 (c.K : Int)]) rfl (fun ρ hρ hf e0 => upon_is (by have hb0 := hfd w'; go_simp))) (by go_frame; rfl) (by simp only [List.nil_append, List.cons_append]; rfl) ?_
  refine walkT_is (wantedT hops rfl rfl rfl rfl) (fun w' hC hd => tame_2 74 (.int .i64 ((b : Int))) 77 (.int .i64 ((c.N : Int))) rfl rfl (fun ρ hρ hf e0 e1 => upon_is (by have hb0 := hb1; go_simp))) (by go_frame; rfl) (by simp only [List.nil_append, List.cons_append]; rfl) ?_
  refine walkT_is (wantedN rfl) (fun w' hC hd => tame_pick _ _ _ true rfl rfl rfl) (by go_frame; rfl) (by simp only [List.nil_append, List.cons_append]; rfl) ?_
  refine walkT_is (wantedN rfl) (fun w' hC hd => tame_move _ (.inl rfl) rfl) (by go_frame; rfl) (by simp only [List.nil_append, List.cons_append]; rfl) ?_
  refine walkT_is (wantedT hops rfl rfl rfl rfl) (fun w' hC hd => tame_move _ (.inl rfl) rfl) (by go_frame; rfl) (by simp only [List.nil_append, List.cons_append]; rfl) ?_
  refine walkT_is (wantedT hops rfl rfl rfl rfl) (fun w' hC hd => tame_1 5 (.pointer (some ⟨w.heap.size, 0, none⟩)) rfl (fun ρ hρ hf e0 => upon_is (by go_simp))) (by go_frame; rfl) (by simp only [List.nil_append, List.cons_append]; rfl) ?_
  refine walkT_is (wantedT hops rfl rfl rfl rfl) (fun w' hC hd => tame_1 82 (.pointer (some ⟨w.heap.size, 1, none⟩)) rfl (fun ρ hρ hf e0 => upon_is (by have hc0 := z1 w' hC; go_simp))) (by go_frame; rfl) (by simp only [List.nil_append, List.cons_append]; rfl) ?_
  refine walkT_is (wantedT hops rfl rfl rfl rfl) (fun w' hC hd => tame_2 81 (.pointer (some ⟨p.a, 0, none⟩)) 83 (.int .i64 ((b : Int))) rfl rfl (fun ρ hρ hf e0 e1 => upon_call_below (f := 28) (args := #[.pointer (some ⟨p.a, 0, none⟩), .int .i64 ((b : Int)), .int .i64 0]) (by go_simp) (seewordB p c s b 0 (b : Int) 0 y w' (HGq.out.later hC) hb (by omega) rfl rfl HY.out))) (by go_frame; rfl) (by simp only [List.nil_append, List.cons_append]; rfl) ?_
  refine walkT_is (wantedT hops rfl rfl rfl rfl) (fun w' hC hd => tame_1 84 (.int .u32 y) rfl (fun ρ hρ hf e0 => upon_is (by have hb0 := hr1; go_simp))) (by go_frame; rfl) (by simp only [List.nil_append, List.cons_append]; rfl) ?_
  refine walkT_is (wantedT hops rfl rfl rfl rfl) (fun w' hC hd => tame_1 85 (.int .u32 0) rfl (fun ρ hρ hf e0 => upon_is (by go_simp))) (by go_frame; rfl) (by simp only [List.nil_append, List.cons_append]; rfl) ?_
  refine walkT_is (wantedN rfl) (fun w' hC hd => tame_pick _ _ _ true rfl rfl rfl) (by go_frame; rfl) (by simp only [List.nil_append, List.cons_append]; rfl) ?_
  refine walkT_is (wantedN rfl) (fun w' hC hd => tame_move _ (.inr rfl) rfl) (by go_frame; rfl) (by simp only [List.nil_append, List.cons_append]; rfl) ?_
  refine walkT_nil fun w12 hC12 _ => hK _ _ ?_
  have HG12 := Lib.hid (HG.out.later hC12)
  have HR12 := Lib.hid (HR.out.later hC12)
  have HBk12 := Lib.hid (HBk.out.later hC12)
  have HT12 : Hid (Touch (inG p) w w12) := Lib.hid (HT.out.trans (Touch.of_below hC12))
  clear z1 hC12 cHBk0 cHBk1
  have cHBk0 := HBk12.out.cell 0 rfl
  have cHBk1 := HBk12.out.cell 1 rfl
  go_wp2_with fail
  refine (HD.out s.m _ HG12.out).mono ?_
  rintro e wm1 ⟨rfl, hG, hT⟩
  have HG1 := Lib.hid hG
  have HT1 : Hid (Touch (inG p) _ wm1) := Lib.hid (HT12.out.trans hT)
  have HR1 := Lib.hid (HR12.out.touch hT HA.out.o)
  have HBk1 := Lib.hid (HBk12.out.touch hT HNo.out)
  clear hG hT
  clear cHBk0 cHBk1
  have cHBk0 := HBk1.out.cell 0 rfl
  have cHBk1 := HBk1.out.cell 1 rfl
  go_wp2_with fail
  refine (gmeter_any p c _ _ HG1.out).mono ?_
  rintro e wm0 ⟨rfl, rfl⟩
  go_wp2_with fail
  go_ret2
  exact ⟨l, a, cap, _, rfl, ⟨HG1.out, HA.out.pool, HR1.out, HA.out.o, HA.out.hN⟩, HT1.out⟩


set_option maxRecDepth 100000 in
set_option maxHeartbeats 1000000 in
theorem pdo_give_yes (F : PoolFns) (p : Pl) (c : Cf) (s : St) (l : List Nat) (a : Option Addr) (cap : Nat) (b : Nat) (y : Int) (hb : b < c.N) (hy : nth s.zs (adr c b 0) = y) (hk : uK y ≠ 0) (t0 t1 t2 t3 t4 t5 t6 x : Int) (w : World) (hA : AtP w p c s l a) (h0 : 0 ≤ x) (h1 : x ≤ 4294967295) :
    Calls Try.prog 12 #[.pointer (some ⟨p.a, 0, none⟩), .slice a l.length cap, .agg #[.int .u8 1, .int .i64 (b : Int), .int .i64 t0, .int .i64 t1, .int .i64 t2, .int .i64 t3, .int .i64 t4, .int .i64 t5, .int .i64 t6, .int .u32 x]] w (DoP w p c) := by
  have HA := Lib.hid hA
  have HL := Lib.hid hA.hl
  have hn : b ∉ l := fun hm => hk (by rw [← hy, hA.pool.fr b hm]; rfl)
  obtain ⟨d, hdB, H⟩ := F.give_yes c s.zs b l hA.gr.wz hA.pool.ch hb hn (by rw [hy]; exact hk)
  have HD := Lib.hid (fun m w hG => H p m w hG)
  have hdw := u64m_add s.m d (by omega)
  have HY := Lib.hid hy
  have hW := hA.gr.may.w
  have hy0 := hA.gr.wf (adr c b 0)
  rw [hy] at hy0
  have hb0 : decide ((0 : Int) ≤ (b : Int)) = true := by simp
  have hb1 : decide ((b : Int) < (c.N : Int)) = true := by simp; omega
  have hfd := cfield0 (c.N : Int) (c.W : Int) (c.R : Int) (c.K : Int)
  have hr1 : Int.tmod y 4 = y % 4 := Int.tmod_eq_emod_of_nonneg hy0.1
  have hr2 : (y % 4 != 0) = true := by rw [bne_iff_ne]; exact hk
  have HGv := Lib.hid (hA.pool.give hA.gr.may hA.gr.len hb hn)
  have EL : Hid ((b :: l).length = l.length + 1) := Lib.hid (by simp)
  have HR := Lib.hid (hA.r.alloc (.cells #[.int .u8 1, .int .i64 (b : Int), .int .i64 t0, .int .i64 t1, .int .i64 t2, .int .i64 t3, .int .i64 t4, .int .i64 t5, .int .i64 t6, .int .u32 x] 38))
  have HG := Lib.hid (hA.gr.alloc (.cells #[.int .u8 1, .int .i64 (b : Int), .int .i64 t0, .int .i64 t1, .int .i64 t2, .int .i64 t3, .int .i64 t4, .int .i64 t5, .int .i64 t6, .int .u32 x] 38))
  have HT : Hid (Touch (inG p) w (w.alloc (.cells #[.int .u8 1, .int .i64 (b : Int), .int .i64 t0, .int .i64 t1, .int .i64 t2, .int .i64 t3, .int .i64 t4, .int .i64 t5, .int .i64 t6, .int .u32 x] 38))) := Lib.hid (Touch.of_below (below_new w _))
  have HBk := Lib.hid (Blk.new w #[.int .u8 1, .int .i64 (b : Int), .int .i64 t0, .int .i64 t1, .int .i64 t2, .int .i64 t3, .int .i64 t4, .int .i64 t5, .int .i64 t6, .int .u32 x] 38)
  have HNo : Hid (¬ inG p w.heap.size) := Lib.hid (fun hx => by have := hA.gr.ofG_lt (Or.inr hx); omega)
  clear hA H hy hk hn
  go_enter Try.func12, Try.ntmps12
  go_wp2_with fail
  generalize hw0 : w.alloc (.cells #[.int .u8 1, .int .i64 (b : Int), .int .i64 t0, .int .i64 t1, .int .i64 t2, .int .i64 t3, .int .i64 t4, .int .i64 t5, .int .i64 t6, .int .u32 x] 38) = w0 at *
  clear hw0
  have HT0 : Hid (Touch (inG p) w w) := Lib.hid (Touch.refl _ _)
  have cHBk0 := HBk.out.cell 0 rfl
  have cHBk1 := HBk.out.cell 1 rfl
  refine (gmeter_any p c s _ HG.out).mono ?_
  rintro e wm0 ⟨rfl, rfl⟩
  have HGq := Lib.hid HG.out
  go_wp2_with fail
  have z1 := fun w' (hC : Below (w0).heap.size w0 w') => (hC.cell (p := ⟨w.heap.size, 1, none⟩) (by have := HBk.out.lt; omega)).trans cHBk1
  refine wp_region_tame_all [Fact.is (.pointer (some ⟨w.heap.size, 1, none⟩)), Fact.is (.int .i64 ((b : Int))), Fact.is (.bool true), Fact.is (.bool true), Fact.is (.pointer (some ⟨w.heap.size, 1, none⟩)), Fact.is (.int .i64 ((b : Int))), Fact.is (.pointer (some ⟨p.a, 0, none⟩)), Fact.is (.agg #[.int .i64 (c.N : Int), .int .i64 (c.W : Int), .int .i64 (c.R : Int), .int .i64 (c.K : Int)]), Fact.is (.int .i64 ((c.N : Int))), Fact.is (.bool true), Fact.is (.bool true), Fact.is (.bool true), Fact.is (.pointer (some ⟨p.a, 0, none⟩)), Fact.is (.pointer (some ⟨w.heap.size, 1, none⟩)), Fact.is (.int .i64 ((b : Int))), Fact.is (.int .u32 y), Fact.is (.int .u32 (y % 4)), Fact.is (.bool true), Fact.is (.bool true), Fact.is (.bool true)] (by kernel_rfl) (by kernel_rfl) rfl (by kernel_rfl) (fun ops K2 hops hK => ?_)
  refine walkT_is (wantedN rfl) (fun w' hC hd => tame_1 5 (.pointer (some ⟨w.heap.size, 0, none⟩)) rfl (fun ρ hρ hf e0 => upon_is (by go_simp))) (by go_frame; rfl) (by simp only [List.nil_append, List.cons_append]; rfl) ?_
  refine walkT_is (wantedN rfl) (fun w' hC hd => tame_1 69 (.pointer (some ⟨w.heap.size, 1, none⟩)) rfl (fun ρ hρ hf e0 => upon_is (by have hc0 := z1 w' hC; go_simp))) (by go_frame; rfl) (by simp only [List.nil_append, List.cons_append]; rfl) ?_
  refine walkT_is (wantedN rfl) (fun w' hC hd => tame_1 70 (.int .i64 ((b : Int))) rfl (fun ρ hρ hf e0 => upon_is (by have hb0 := hb0; go_simp))) (by go_frame; rfl) (by simp only [List.nil_append, List.cons_append]; rfl) ?_
  refine walkT_is (wantedN rfl) (fun w' hC hd => tame_move _ (.inl rfl) rfl) (by go_frame; rfl) (by simp only [List.nil_append, List.cons_append]; rfl) ?_
  refine walkT_is (wantedT hops rfl rfl rfl rfl) (fun w' hC hd => tame_1 5 (.pointer (some ⟨w.heap.size, 0, none⟩)) rfl (fun ρ hρ hf e0 => upon_is (by go_simp))) (by go_frame; rfl) (by simp only [List.nil_append, List.cons_append]; rfl) ?_
  refine walkT_is (wantedT hops rfl rfl rfl rfl) (fun w' hC hd => tame_1 73 (.pointer (some ⟨w.heap.size, 1, none⟩)) rfl (fun ρ hρ hf e0 => upon_is (by have hc0 := z1 w' hC; go_simp))) (by go_frame; rfl) (by simp only [List.nil_append, List.cons_append]; rfl) ?_
  refine walkT_is (wantedT hops rfl rfl rfl rfl) (fun w' hC hd => tame_move _ (.inl rfl) rfl) (by go_frame; rfl) (by simp only [List.nil_append, List.cons_append]; rfl) ?_
  refine walkT_is (wantedT hops rfl rfl rfl rfl) (fun w' hC hd => tame_1 75 (.pointer (some ⟨p.a, 0, none⟩)) rfl (fun ρ hρ hf e0 => upon_call_below (f := 22) (by go_simp) (gconfC p c s w' (HGq.out.later hC)))) (by go_frame; rfl) (by simp only [List.nil_append, List.cons_append]; rfl) ?_
  refine walkT_is (wantedT hops rfl rfl rfl rfl) (fun w' hC hd => tame_1 76 (.agg #[.int .i64 (c.N : Int), .int .i64 (c.W : Int), .int .i64 (c.R : Int), .int .i64 (c.K : Int)]) rfl (fun ρ hρ hf e0 => upon_is (by have hb0 := hfd w'; go_simp))) (by go_frame; rfl) (by simp only [List.nil_append, List.cons_append]; rfl) ?_
  refine walkT_is (wantedT hops rfl rfl rfl rfl) (fun w' hC hd => tame_2 74 (.int .i64 ((b : Int))) 77 (.int .i64 ((c.N : Int))) rfl rfl (fun ρ hρ hf e0 e1 => upon_is (by have hb0 := hb1; go_simp))) (by go_frame; rfl) (by simp only [List.nil_append, List.cons_append]; rfl) ?_
  refine walkT_is (wantedN rfl) (fun w' hC hd => tame_pick _ _ _ true rfl rfl rfl) (by go_frame; rfl) (by simp only [List.nil_append, List.cons_append]; rfl) ?_
  refine walkT_is (wantedN rfl) (fun w' hC hd => tame_move _ (.inl rfl) rfl) (by go_frame; rfl) (by simp only [List.nil_append, List.cons_append]; rfl) ?_
  refine walkT_is (wantedT hops rfl rfl rfl rfl) (fun w' hC hd => tame_move _ (.inl rfl) rfl) (by go_frame; rfl) (by simp only [List.nil_append, List.cons_append]; rfl) ?_
  refine walkT_is (wantedT hops rfl rfl rfl rfl) (fun w' hC hd => tame_1 5 (.pointer (some ⟨w.heap.size, 0, none⟩)) rfl (fun ρ hρ hf e0 => upon_is (by go_simp))) (by go_frame; rfl) (by simp only [List.nil_append, List.cons_append]; rfl) ?_
  refine walkT_is (wantedT hops rfl rfl rfl rfl) (fun w' hC hd => tame_1 82 (.pointer (some ⟨w.heap.size, 1, none⟩)) rfl (fun ρ hρ hf e0 => upon_is (by have hc0 := z1 w' hC; go_simp))) (by go_frame; rfl) (by simp only [List.nil_append, List.cons_append]; rfl) ?_
  refine walkT_is (wantedT hops rfl rfl rfl rfl) (fun w' hC hd => tame_2 81 (.pointer (some ⟨p.a, 0, none⟩)) 83 (.int .i64 ((b : Int))) rfl rfl (fun ρ hρ hf e0 e1 => upon_call_below (f := 28) (args := #[.pointer (some ⟨p.a, 0, none⟩), .int .i64 ((b : Int)), .int .i64 0]) (by go_simp) (seewordB p c s b 0 (b : Int) 0 y w' (HGq.out.later hC) hb (by omega) rfl rfl HY.out))) (by go_frame; rfl) (by simp only [List.nil_append, List.cons_append]; rfl) ?_
  refine walkT_is (wantedT hops rfl rfl rfl rfl) (fun w' hC hd => tame_1 84 (.int .u32 y) rfl (fun ρ hρ hf e0 => upon_is (by have hb0 := hr1; go_simp))) (by go_frame; rfl) (by simp only [List.nil_append, List.cons_append]; rfl) ?_
  refine walkT_is (wantedT hops rfl rfl rfl rfl) (fun w' hC hd => tame_1 85 (.int .u32 (y % 4)) rfl (fun ρ hρ hf e0 => upon_is (by have hb0 := hr2; go_simp))) (by go_frame; rfl) (by simp only [List.nil_append, List.cons_append]; rfl) ?_
  refine walkT_is (wantedN rfl) (fun w' hC hd => tame_pick _ _ _ true rfl rfl rfl) (by go_frame; rfl) (by simp only [List.nil_append, List.cons_append]; rfl) ?_
  refine walkT_is (wantedN rfl) (fun w' hC hd => tame_move _ (.inr rfl) rfl) (by go_frame; rfl) (by simp only [List.nil_append, List.cons_append]; rfl) ?_
  refine walkT_nil fun w12 hC12 _ => hK _ _ ?_
  have HG12 := Lib.hid (HG.out.later hC12)
  have HR12 := Lib.hid (HR.out.later hC12)
  have HBk12 := Lib.hid (HBk.out.later hC12)
  have HT12 : Hid (Touch (inG p) w w12) := Lib.hid (HT.out.trans (Touch.of_below hC12))
  clear z1 hC12 cHBk0 cHBk1
  have cHBk0 := HBk12.out.cell 0 rfl
  have cHBk1 := HBk12.out.cell 1 rfl
  go_wp2_with fail
  refine (HD.out s.m _ HG12.out).mono ?_
  rintro e wm1 ⟨rfl, hG, hT⟩
  have HG1 := Lib.hid hG
  have HT1 : Hid (Touch (inG p) _ wm1) := Lib.hid (HT12.out.trans hT)
  have HR1 := Lib.hid (HR12.out.touch hT HA.out.o)
  have HBk1 := Lib.hid (HBk12.out.touch hT HNo.out)
  clear hG hT
  clear cHBk0 cHBk1
  have cHBk0 := HBk1.out.cell 0 rfl
  have cHBk1 := HBk1.out.cell 1 rfl
  go_wp2_with fail
  refine (gmeter_any p c _ _ HG1.out).mono ?_
  rintro e wm0 ⟨rfl, rfl⟩
  go_wp2_with fail
  have hcur : Below (wm1).heap.size wm1 (wm1).drew := Drw.new ⟨1, rfl⟩
  have HC1 : Hid (∀ w', Below (wm1).heap.size wm1 w' → w'.cell? ⟨w.heap.size, 1, none⟩ = some (.int .i64 (b : Int))) := Lib.hid (fun w' h => (h.cell (p := ⟨w.heap.size, 1, none⟩) HBk1.out.lt).trans (HBk1.out.cell 1 rfl))
  have z0 : (wm1).cell? ⟨w.heap.size, 1, none⟩ = some (.int .i64 (b : Int)) := HBk1.out.cell 1 rfl
  go_region_held3 (fun w' => w'.cell? ⟨w.heap.size, 1, none⟩ = some (.int .i64 (b : Int))) (exact z0) (first | (go_at_call 29; refine (rFront a cap l b _ (HR1.out.later hcur) (by have := HL.out; omega)).mono ?_; rintro e w5 ⟨a', cap', rfl, hr', hf', hb⟩; have HO' := Lib.hid (fresh_outG (zs := ints (b :: l)) (HG1.out.later hcur) hf'); have hcur5 := below_step hcur hb; have z0 := HC1.out _ hcur5; have HR' := Lib.hid hr'; have HG5 := Lib.hid (HG1.out.later hcur5); clear hr' hf' hb) | (go_at_call 28; refine (seewordB p c _ b 0 (b : Int) 0 0 _ HG5.out (by assumption) (by omega) rfl rfl HGv.out.2).mono ?_; rintro e w6 ⟨rfl, hb6⟩; have HG6 := Lib.hid (HG5.out.later hb6); have HR6 := Lib.hid (HR'.out.later hb6); have hcur6 := below_step hcur5 hb6; have z0 := HC1.out _ hcur6; clear hb6))
  all_goals
    go_wp2_with fail
    go_ret2
    exact ⟨b :: l, a', cap', _, by rw [EL.out]; rfl, ⟨HG6.out, HGv.out.1, HR6.out, HO'.out, HA.out.hN⟩, HT1.out.trans (Touch.of_below hcur6)⟩


set_option maxRecDepth 100000 in
set_option maxHeartbeats 1000000 in
theorem pdo_look (F : PoolFns) (p : Pl) (c : Cf) (s : St) (l : List Nat) (a : Option Addr) (cap : Nat) (kind b : Int) (k0 : (kind == 0) = false) (k1 : (kind == 1) = false) (t0 t1 t2 t3 t4 t5 t6 x : Int) (w : World) (hA : AtP w p c s l a) (h0 : 0 ≤ x) (h1 : x ≤ 4294967295) :
    Calls Try.prog 12 #[.pointer (some ⟨p.a, 0, none⟩), .slice a l.length cap, .agg #[.int .u8 kind, .int .i64 b, .int .i64 t0, .int .i64 t1, .int .i64 t2, .int .i64 t3, .int .i64 t4, .int .i64 t5, .int .i64 t6, .int .u32 x]] w (DoP w p c) := by
  have HA := Lib.hid hA
  have HL := Lib.hid hA.hl
  obtain ⟨d, hdB, H⟩ := F.len c s.zs l hA.gr.wz hA.pool.ch
  have HD := Lib.hid (fun m w hG => H p m w hG)
  have HR := Lib.hid (hA.r.alloc (.cells #[.int .u8 kind, .int .i64 b, .int .i64 t0, .int .i64 t1, .int .i64 t2, .int .i64 t3, .int .i64 t4, .int .i64 t5, .int .i64 t6, .int .u32 x] 38))
  have HG := Lib.hid (hA.gr.alloc (.cells #[.int .u8 kind, .int .i64 b, .int .i64 t0, .int .i64 t1, .int .i64 t2, .int .i64 t3, .int .i64 t4, .int .i64 t5, .int .i64 t6, .int .u32 x] 38))
  have HT : Hid (Touch (inG p) w (w.alloc (.cells #[.int .u8 kind, .int .i64 b, .int .i64 t0, .int .i64 t1, .int .i64 t2, .int .i64 t3, .int .i64 t4, .int .i64 t5, .int .i64 t6, .int .u32 x] 38))) := Lib.hid (Touch.of_below (below_new w _))
  have HBk := Lib.hid (Blk.new w #[.int .u8 kind, .int .i64 b, .int .i64 t0, .int .i64 t1, .int .i64 t2, .int .i64 t3, .int .i64 t4, .int .i64 t5, .int .i64 t6, .int .u32 x] 38)
  have HNo : Hid (¬ inG p w.heap.size) := Lib.hid (fun hx => by have := hA.gr.ofG_lt (Or.inr hx); omega)
  clear hA H
  go_enter Try.func12, Try.ntmps12
  go_wp2_with fail
  generalize hw0 : w.alloc (.cells #[.int .u8 kind, .int .i64 b, .int .i64 t0, .int .i64 t1, .int .i64 t2, .int .i64 t3, .int .i64 t4, .int .i64 t5, .int .i64 t6, .int .u32 x] 38) = w0 at *
  clear hw0
  have HT0 : Hid (Touch (inG p) w w) := Lib.hid (Touch.refl _ _)
  have cHBk0 := HBk.out.cell 0 rfl
  have cHBk1 := HBk.out.cell 1 rfl
  refine (gmeter_any p c s _ HG.out).mono ?_
  rintro e wm0 ⟨rfl, rfl⟩
  go_wp2_with fail
  refine (HD.out s.m _ HG.out).mono ?_
  rintro e wm1 ⟨rfl, hG, hT⟩
  have HG1 := Lib.hid hG
  have HT1 : Hid (Touch (inG p) _ wm1) := Lib.hid (HT.out.trans hT)
  have HR1 := Lib.hid (HR.out.touch hT HA.out.o)
  have HBk1 := Lib.hid (HBk.out.touch hT HNo.out)
  clear hG hT
  clear cHBk0 cHBk1
  have cHBk0 := HBk1.out.cell 0 rfl
  have cHBk1 := HBk1.out.cell 1 rfl
  go_wp2_with fail
  go_ret2
  exact ⟨l, a, cap, _, rfl, ⟨HG1.out, HA.out.pool, HR1.out, HA.out.o, HA.out.hN⟩, HT1.out⟩


theorem pdo_any (F : PoolFns) (p : Pl) (c : Cf) (s : St) (l : List Nat) (a : Option Addr) (cap : Nat) (kind b t0 t1 t2 t3 t4 t5 t6 x : Int) (w : World) (hA : AtP w p c s l a) (h0 : 0 ≤ x) (h1 : x ≤ 4294967295) :
    Calls Try.prog 12 #[.pointer (some ⟨p.a, 0, none⟩), .slice a l.length cap, .agg #[.int .u8 kind, .int .i64 b, .int .i64 t0, .int .i64 t1, .int .i64 t2, .int .i64 t3, .int .i64 t4, .int .i64 t5, .int .i64 t6, .int .u32 x]] w (DoP w p c) := by
  by_cases k0 : kind = 0
  · subst k0
    cases l with
    | nil => exact pdo_take_no F p c s [] a cap b rfl t0 t1 t2 t3 t4 t5 t6 x w hA h0 h1
    | cons y t => exact pdo_take_yes F p c s a cap b y t t0 t1 t2 t3 t4 t5 t6 x w hA h0 h1
  · by_cases k1 : kind = 1
    · subst k1
      by_cases hb : b < 0
      · exact pdo_give_neg F p c s l a cap b (Or.inl (by omega)) hb t0 t1 t2 t3 t4 t5 t6 x w hA h0 h1
      · by_cases hb2 : (c.N : Int) ≤ b
        · exact pdo_give_big F p c s l a cap b (Or.inl (by omega)) hb2 t0 t1 t2 t3 t4 t5 t6 x w hA h0 h1
        · obtain ⟨k, rfl⟩ := Int.eq_ofNat_of_zero_le (show 0 ≤ b by omega)
          have hk : k < c.N := by omega
          by_cases hu : uK (nth s.zs (adr c k 0)) = 0
          · exact pdo_give_free F p c s l a cap k _ (Or.inr ⟨k, rfl, hk, hu⟩) hk rfl hu t0 t1 t2 t3 t4 t5 t6 x w hA h0 h1
          · exact pdo_give_yes F p c s l a cap k _ hk rfl hu t0 t1 t2 t3 t4 t5 t6 x w hA h0 h1
    · exact pdo_look F p c s l a cap kind b (neq_b k0) (neq_b k1) t0 t1 t2 t3 t4 t5 t6 x w hA h0 h1

end Go.Proofs.Ytgfpcamgebnfmaa.Pk
