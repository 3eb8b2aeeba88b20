/-
  Layer 10: the law's own looks at a block, and what it writes there.
-/
import Derived.Test.YtgfpcamgebnfmaaPool
import Derived.Test.YtgfpcamgebnfmaaRefTags
import Derived.Deep.RegionHeld3
import Derived.BigQuiet
namespace Go.Proofs.Ytgfpcamgebnfmaa.Pk
open Go.RowKit
set_option linter.unusedVariables false
set_option linter.unusedSimpArgs false

set_option maxHeartbeats 400000 in
theorem wiped_any (p : Pl) (c : Cf) (s : St) (b : Nat) (w : World) (hG : G w p c s) (hb : b < c.N) (hz : ∀ v, v < c.W → nth s.zs (adr c b v) = 0) :
    Calls Try.prog 25 #[.pointer (some ⟨p.a, 0, none⟩), .int .i64 (b : Int)] w fun e w' => e = .returned (.bool true) ∧ Below w.heap.size w w' := by
  have HG0 := Lib.hid hG
  have HZ := Lib.hid hz
  have hW := hG.may.w
  have hfd := cfield1 (c.N : Int) (c.W : Int) (c.R : Int) (c.K : Int)
  clear hG hz
  go_enter Try.func25, Try.ntmps25
  go_wp2_with fail
  go_loopw [5] (fun i wr => ∃ v : Nat, v ≤ c.W ∧ i = .int .i64 (v : Int) ∧ Below w.heap.size w wr) (fun i _ => c.W - (intOf i).toNat)
  case atStart => exact ⟨0, Nat.zero_le _, rfl, Below.refl _ _⟩
  case round =>
    obtain ⟨v, hv, rfl, hbel⟩ := hrel
    have HT := Lib.hid hbel
    have HG := Lib.hid (HG0.out.later hbel)
    clear hbel
    have HT0 : Hid (Below w.heap.size w w) := Lib.hid (Below.refl _ _)
    by_cases hlt : v < c.W
    · go_wp2_with fail
      refine (gconfC p c s _ HG.out).mono ?_
      rintro e wm1 ⟨rfl, hb⟩
      have HG1 := Lib.hid (HG.out.later hb)
      have HT1 : Hid (Below w.heap.size w wm1) := Lib.hid (below_step HT.out hb)
      clear hb
      go_wp2_with fail
      refine (seewordW p c s b v _ _ 0 _ HG1.out hb hlt rfl rfl (HZ.out v hlt)).mono ?_
      rintro e wm2 ⟨rfl, hd⟩
      have HG2 := Lib.hid (HG1.out.drw hd)
      have HT2 : Hid (Below w.heap.size w wm2) := Lib.hid (below_step HT1.out hd.new)
      clear hd
      go_wp2_with fail
      go_roundw
      case rel => exact ⟨v + 1, by omega, by go_num, HT2.out⟩
      case measure => simp [intOf]; omega
    · go_wp2_with fail
      refine (gconfC p c s _ HG.out).mono ?_
      rintro e wm1 ⟨rfl, hb⟩
      have HG1 := Lib.hid (HG.out.later hb)
      have HT1 : Hid (Below w.heap.size w wm1) := Lib.hid (below_step HT.out hb)
      clear hb
      go_wp2_with fail
      go_ret
      exact ⟨rfl, HT1.out⟩

set_option maxHeartbeats 1000000 in
theorem use_any (p : Pl) (c : Cf) (s : St) (b : Nat) (kind i t0 t1 t2 t3 t4 t5 t6 x : Int) (w : World) (hG : G w p c s) (hb : b < c.N) (h0 : 0 ≤ x) (h1 : x ≤ 4294967295) :
    Calls Try.prog 26 #[.pointer (some ⟨p.a, 0, none⟩), .int .i64 (b : Int), .agg #[.int .u8 kind, .int .i64 i, .int .i64 t0, .int .i64 t1, .int .i64 t2, .int .i64 t3, .int .i64 t4, .int .i64 t5, .int .i64 t6, .int .u32 x]] w
      fun e w' => e = .returned (.tuple #[]) ∧ ∃ s', G w' p c s' ∧ BlkOnly c b s.zs s'.zs ∧ Touch (inG p) w w' := by
  have hW := hG.may.w
  have hfd := cfield1 (c.N : Int) (c.W : Int) (c.R : Int) (c.K : Int)
  have HNo : Hid (¬ inG p w.heap.size) := Lib.hid (fun hx => by have := hG.ofG_lt (Or.inr hx); omega)
  have HG0 := Lib.hid hG
  clear hG
  go_enter Try.func26, Try.ntmps26
  obtain ⟨cs, hcs⟩ : ∃ cs : Array Value, cs = #[.int .u8 kind, .int .i64 i, .int .i64 t0, .int .i64 t1, .int .i64 t2, .int .i64 t3, .int .i64 t4, .int .i64 t5, .int .i64 t6, .int .u32 x] := ⟨_, rfl⟩
  have HBk0 := Lib.hid (Blk.new w #[.int .u8 kind, .int .i64 i, .int .i64 t0, .int .i64 t1, .int .i64 t2, .int .i64 t3, .int .i64 t4, .int .i64 t5, .int .i64 t6, .int .u32 x] 38)
  have HG1 := Lib.hid (HG0.out.alloc (.cells #[.int .u8 kind, .int .i64 i, .int .i64 t0, .int .i64 t1, .int .i64 t2, .int .i64 t3, .int .i64 t4, .int .i64 t5, .int .i64 t6, .int .u32 x] 38))
  have HT1 : Hid (Touch (inG p) w (w.alloc (.cells #[.int .u8 kind, .int .i64 i, .int .i64 t0, .int .i64 t1, .int .i64 t2, .int .i64 t3, .int .i64 t4, .int .i64 t5, .int .i64 t6, .int .u32 x] 38))) := Lib.hid (Touch.of_below (below_new w _))
  go_wp2_with fail
  clear hcs
  go_loopw [6] (fun u wr => ∃ v : Nat, 1 ≤ v ∧ v ≤ c.W ∧ u = .int .i64 (v : Int) ∧ ∃ s', G wr p c s' ∧ BlkOnly c b s.zs s'.zs ∧ Touch (inG p) w wr ∧ Blk wr w.heap.size #[.int .u8 kind, .int .i64 i, .int .i64 t0, .int .i64 t1, .int .i64 t2, .int .i64 t3, .int .i64 t4, .int .i64 t5, .int .i64 t6, .int .u32 x] 38) (fun u _ => c.W - (intOf u).toNat)
  case atStart => exact ⟨1, Nat.le_refl _, by omega, rfl, s, HG1.out, BlkOnly.refl _ _ _, HT1.out, HBk0.out⟩
  case round =>
    obtain ⟨v, hv1, hv, rfl, s', hG, hO, hT, hBk⟩ := hrel
    have HG := Lib.hid hG
    have HO := Lib.hid hO
    have HT := Lib.hid hT
    have HBk := Lib.hid hBk
    clear hG hO hT hBk
    have HT0 : Hid (Touch (inG p) wr wr) := Lib.hid (Touch.refl _ _)
    by_cases hlt : v < c.W
    · have cHBk9 := HBk.out.cell 9 rfl
      go_wp2_with fail
      refine (gconfC p c s' _ HG.out).mono ?_
      rintro e wm1 ⟨rfl, hb⟩
      have HG1 := Lib.hid (HG.out.later hb)
      have HT1 : Hid (Touch (inG p) _ wm1) := Lib.hid (HT.out.trans (Touch.of_below hb))
      have HBk1 := Lib.hid (HBk.out.later hb)
      clear hb
      clear cHBk9
      have cHBk9 := HBk1.out.cell 9 rfl
      go_wp2_with fail
      refine (setwordW p c s' b v _ _ x _ HG1.out hb hlt rfl rfl h0 h1).mono ?_
      rintro e wm2 ⟨rfl, hG, hT⟩
      have HG2 := Lib.hid hG
      have HT2 : Hid (Touch (inG p) _ wm2) := Lib.hid (HT1.out.trans hT)
      have HBk2 := Lib.hid (HBk1.out.touch hT HNo.out)
      clear hG hT
      clear cHBk9
      have cHBk9 := HBk2.out.cell 9 rfl
      go_wp2_with fail
      go_roundw
      case rel => exact ⟨v + 1, by omega, by omega, by go_num, _, HG2.out, HO.out.trans (BlkOnly.set hlt x), HT2.out, HBk2.out⟩
      case measure => simp [intOf]; omega
    · have cHBk2 := HBk.out.cell 2 rfl
      have cHBk3 := HBk.out.cell 3 rfl
      have cHBk4 := HBk.out.cell 4 rfl
      have cHBk5 := HBk.out.cell 5 rfl
      have cHBk6 := HBk.out.cell 6 rfl
      have cHBk7 := HBk.out.cell 7 rfl
      have cHBk8 := HBk.out.cell 8 rfl
      go_wp2_with fail
      refine (gconfC p c s' _ HG.out).mono ?_
      rintro e wm1 ⟨rfl, hb⟩
      have HG1 := Lib.hid (HG.out.later hb)
      have HT1 : Hid (Touch (inG p) _ wm1) := Lib.hid (HT.out.trans (Touch.of_below hb))
      have HBk1 := Lib.hid (HBk.out.later hb)
      clear hb
      clear cHBk2 cHBk3 cHBk4 cHBk5 cHBk6 cHBk7 cHBk8
      have cHBk2 := HBk1.out.cell 2 rfl
      have cHBk3 := HBk1.out.cell 3 rfl
      have cHBk4 := HBk1.out.cell 4 rfl
      have cHBk5 := HBk1.out.cell 5 rfl
      have cHBk6 := HBk1.out.cell 6 rfl
      have cHBk7 := HBk1.out.cell 7 rfl
      have cHBk8 := HBk1.out.cell 8 rfl
      cases hr : rightB t0 t1 t2 t3 t4 t5 t6 with
      | false =>
        have HR := Lib.hid hr
        clear hr
        go_wp2_with fail
        refine (refRightT_any t0 t1 t2 t3 t4 t5 t6 _).mono ?_
        rw [HR.out]
        rintro e wm2 ⟨rfl, hb⟩
        have HG2 := Lib.hid (HG1.out.later hb)
        have HT2 : Hid (Touch (inG p) _ wm2) := Lib.hid (HT1.out.trans (Touch.of_below hb))
        have HBk2 := Lib.hid (HBk1.out.later hb)
        clear hb
        clear cHBk2 cHBk3 cHBk4 cHBk5 cHBk6 cHBk7 cHBk8
        have cHBk2 := HBk2.out.cell 2 rfl
        have cHBk3 := HBk2.out.cell 3 rfl
        have cHBk4 := HBk2.out.cell 4 rfl
        have cHBk5 := HBk2.out.cell 5 rfl
        have cHBk6 := HBk2.out.cell 6 rfl
        have cHBk7 := HBk2.out.cell 7 rfl
        have cHBk8 := HBk2.out.cell 8 rfl
        go_wp2_with fail
        go_end0
        exact ⟨rfl, _, HG2.out, HO.out, HT2.out⟩
      | true =>
        have HR := Lib.hid hr
        have HRt := Lib.hid (rightB_yes hr)
        have HBd := Lib.hid (packI_bd (rightB_yes hr))
        clear hr
        go_wp2_with fail
        refine (refRightT_any t0 t1 t2 t3 t4 t5 t6 _).mono ?_
        rw [HR.out]
        rintro e wm2 ⟨rfl, hb⟩
        have HG2 := Lib.hid (HG1.out.later hb)
        have HT2 : Hid (Touch (inG p) _ wm2) := Lib.hid (HT1.out.trans (Touch.of_below hb))
        have HBk2 := Lib.hid (HBk1.out.later hb)
        clear hb
        clear cHBk2 cHBk3 cHBk4 cHBk5 cHBk6 cHBk7 cHBk8
        have cHBk2 := HBk2.out.cell 2 rfl
        have cHBk3 := HBk2.out.cell 3 rfl
        have cHBk4 := HBk2.out.cell 4 rfl
        have cHBk5 := HBk2.out.cell 5 rfl
        have cHBk6 := HBk2.out.cell 6 rfl
        have cHBk7 := HBk2.out.cell 7 rfl
        have cHBk8 := HBk2.out.cell 8 rfl
        go_wp2_with fail
        refine (refPackT_any t0 t1 t2 t3 t4 t5 t6 _ HRt.out).mono ?_
        rintro e wm3 ⟨rfl, hb⟩
        have HG3 := Lib.hid (HG2.out.later hb)
        have HT3 : Hid (Touch (inG p) _ wm3) := Lib.hid (HT2.out.trans (Touch.of_below hb))
        have HBk3 := Lib.hid (HBk2.out.later hb)
        clear hb
        clear cHBk2 cHBk3 cHBk4 cHBk5 cHBk6 cHBk7 cHBk8
        have cHBk2 := HBk3.out.cell 2 rfl
        have cHBk3 := HBk3.out.cell 3 rfl
        have cHBk4 := HBk3.out.cell 4 rfl
        have cHBk5 := HBk3.out.cell 5 rfl
        have cHBk6 := HBk3.out.cell 6 rfl
        have cHBk7 := HBk3.out.cell 7 rfl
        have cHBk8 := HBk3.out.cell 8 rfl
        go_wp2_with fail
        refine (setwordW p c s' b 0 _ _ _ _ HG3.out hb (by omega) rfl rfl HBd.out.1 HBd.out.2).mono ?_
        rintro e wm4 ⟨rfl, hG, hT⟩
        have HG4 := Lib.hid hG
        have HT4 : Hid (Touch (inG p) _ wm4) := Lib.hid (HT3.out.trans hT)
        have HBk4 := Lib.hid (HBk3.out.touch hT HNo.out)
        clear hG hT
        clear cHBk2 cHBk3 cHBk4 cHBk5 cHBk6 cHBk7 cHBk8
        have cHBk2 := HBk4.out.cell 2 rfl
        have cHBk3 := HBk4.out.cell 3 rfl
        have cHBk4 := HBk4.out.cell 4 rfl
        have cHBk5 := HBk4.out.cell 5 rfl
        have cHBk6 := HBk4.out.cell 6 rfl
        have cHBk7 := HBk4.out.cell 7 rfl
        have cHBk8 := HBk4.out.cell 8 rfl
        go_wp2_with fail
        go_end0
        exact ⟨rfl, _, HG4.out, HO.out.trans (BlkOnly.set (by omega) _), HT4.out⟩

end Go.Proofs.Ytgfpcamgebnfmaa.Pk
