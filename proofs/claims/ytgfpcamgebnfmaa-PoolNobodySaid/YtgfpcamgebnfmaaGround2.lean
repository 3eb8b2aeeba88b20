/-
  The program's ground: whole blocks, all words, the meter, the configuration; new ones.
-/
import Derived.Test.YtgfpcamgebnfmaaGround
import Derived.Test.YtgfpcamgebnfmaaPlanNums
import Derived.LoopTactic
namespace Go.Proofs.Ytgfpcamgebnfmaa.Pk
open Go.RowKit
set_option linter.unusedVariables false
set_option linter.unusedSimpArgs false

theorem gmeter_any (p : Pl) (c : Cf) (s : St) (w : World) (hG : G w p c s) :
    Calls Try.prog 24 #[.pointer (some ⟨p.a, 0, none⟩)] w fun e w' => e = .returned (.int .u64 (u64m s.m)) ∧ w = w' := by
  have cp := hG.ptr
  have HG := Lib.hid hG
  clear hG
  go_enter Try.func24, Try.ntmps24
  go_wp2_with fail
  refine (meter_any p.s p.g s.zs _ _ HG.out.st).mono ?_
  rintro e w1 ⟨rfl, rfl⟩
  go_wp2_with fail
  go_ret
  exact ⟨rfl, rfl⟩
theorem gconf_any (p : Pl) (c : Cf) (s : St) (w : World) (hG : G w p c s) :
    Calls Try.prog 22 #[.pointer (some ⟨p.a, 0, none⟩)] w fun e w' => e = .returned c.val ∧ Below w.heap.size w w' := by
  have cN := hG.cN
  have cW := hG.cW
  have cR := hG.cR
  have cK := hG.cK
  have ha := hG.head.lt
  clear hG
  go_enter Try.func22, Try.ntmps22
  go_wp2_with fail
  exact bodyPost_ret (v := c.val) (by simp [results, Try.results22, go_sem, Cf.val]) rfl ⟨rfl, by
    repeat refine Below.setCell ?_ (by simp) _
    exact below_new w _⟩

/-- Words made 0, from one on. -/
def St.wipe (s : St) (f : Nat) : Nat → St
  | 0 => s
  | n + 1 => (s.wipe f n).set (f + n) 0
theorem St.wipe_len (s : St) (f n : Nat) : (s.wipe f n).zs.length = s.zs.length := by
  induction n with
  | zero => rfl
  | succ n ih => rw [← ih]; exact St.set_len _ _ _
theorem St.wipe_m (s : St) (f n : Nat) : (s.wipe f n).m = s.m + n := by
  induction n with
  | zero => rfl
  | succ n ih => show (s.wipe f n).m + 1 = _; omega
theorem St.wipe_nth (s : St) (f n k : Nat) (h : f + n ≤ s.zs.length) : nth (s.wipe f n).zs k = if f ≤ k ∧ k < f + n then 0 else nth s.zs k := by
  induction n with
  | zero => rw [if_neg (by omega)]; rfl
  | succ n ih =>
    show nth ((s.wipe f n).zs.set (f + n) 0) k = _
    by_cases e : f + n = k
    · subst e
      rw [nth_set_eq (by rw [St.wipe_len]; omega), if_pos (by omega)]
    · rw [nth_set_ne e, ih (by omega)]
      by_cases h1 : f ≤ k ∧ k < f + n
      · rw [if_pos h1, if_pos (by omega)]
      · rw [if_neg h1, if_neg (by omega)]
theorem WfZ.wipe {s : St} (h : WfZ s.zs) (f n : Nat) : WfZ (s.wipe f n).zs := by
  induction n with
  | zero => exact h
  | succ n ih => exact WfZ.set ih _ (Int.le_refl _) (by decide)
/-- What Wipe does. -/
def St.wiped (s : St) (c : Cf) (b : Int) : St := match wordA c b 0 with | some f => s.wipe f c.W | none => s

def wipeV (c : Cf) (b : Int) : Int := if bel b c.N then (c.W : Int) else 0
theorem wipe_any (p : Pl) (c : Cf) (s : St) (b : Int) (w : World) (hG : G w p c s) :
    Calls Try.prog 35 #[.pointer (some ⟨p.a, 0, none⟩), .int .i64 b] w (GP w p c (s.wiped c b) (.int .i64 (wipeV c b))) := by
  have HG := Lib.hid hG
  clear hG
  have e0 : ((0 : Nat) : Int) = 0 := rfl
  cases hk : wordA c b 0 with
  | none =>
    have HK := Lib.hid hk
    have HB : Hid (bel b c.N = false) := Lib.hid (by
      have := HG.out.may.w
      cases hb : bel b c.N with
      | false => rfl
      | true =>
        have h2 : bel (0 : Int) c.W = true := bel_mk (k := 0) (by omega)
        rw [wordA, hb, h2] at hk
        cases hk)
    clear hk
    go_enter Try.func35, Try.ntmps35
    go_wp2_with fail
    refine (asV (wordAt_any p c s b 0 _ HG.out) (atV_none HK.out)).mono ?_
    rintro e w1 ⟨rfl, hd⟩
    have HD := Lib.hid hd
    clear hd
    go_wp2_with fail
    go_ret
    refine ⟨by unfold wipeV; rw [HB.out]; rfl, ?_, Touch.of_below HD.out.new⟩
    rw [show s.wiped c b = s by unfold St.wiped; rw [HK.out]]
    exact HG.out.drw HD.out
  | some f =>
    have HK := Lib.hid hk
    have hB : bel b c.N = true := by
      cases hb : bel b c.N with
      | true => rfl
      | false => rw [wordA, hb] at hk; cases hk
    have HF : Hid (f + c.W ≤ c.size) := Lib.hid (by
      obtain ⟨i, rfl, hi⟩ := bel_nat hB
      have h2 : bel (0 : Int) c.W = true := bel_mk (k := 0) (by have := HG.out.may.w; omega)
      rw [wordA, hB, h2] at hk
      cases hk
      have := wordA_lt' (w := c.W - 1) hi (by have := HG.out.may.w; omega)
      have := HG.out.may.w
      simp
      omega)
    have HB := Lib.hid hB
    clear hk hB
    go_enter Try.func35, Try.ntmps35
    go_wp2_with fail
    refine (asV (wordAt_any p c s b 0 _ HG.out) (atV_some HK.out)).mono ?_
    rintro e w1 ⟨rfl, hd⟩
    have HD := Lib.hid hd
    have HG1 := Lib.hid (HG.out.drw hd)
    have cW := HG1.out.cW
    clear hd
    go_wp2_with fail
    go_loopw [21] (fun i wr => ∃ k : Nat, k ≤ c.W ∧ i = .int .i64 k ∧ G wr p c (s.wipe f k) ∧ Touch (inG p) w wr) (fun i _ => c.W - (intOf i).toNat)
    case atStart => exact ⟨0, Nat.zero_le _, rfl, HG1.out, Touch.of_below HD.out.new⟩
    case round =>
      obtain ⟨k, hkW, rfl, hGk, hTk⟩ := hrel
      have hW := HG.out.may.w
      have HGk := Lib.hid hGk
      have HTk := Lib.hid hTk
      have cp := hGk.ptr
      have cW := hGk.cW
      have hf : f + k ≤ 4198424 := by have := HF.out; have := HG.out.may.size; omega
      have hadd : IntKind.i64.wrap ((f : Int) + (k : Int)) = ((f + k : Nat) : Int) := by rw [IntWalk.i64_in _ (by omega)]; exact (Int.natCast_add f k).symm
      clear hGk hTk
      by_cases hlt : k < c.W
      · have HL : Hid (f + k < (s.wipe f k).zs.length) := Lib.hid (by rw [St.wipe_len, HG.out.len]; have := HF.out; omega)
        go_wp2_with fail
        refine (mput_yes p.s p.g (s.wipe f k).zs (s.wipe f k).m 0 (f + k) _ HGk.out.st HL.out).mono ?_
        rintro e w2 ⟨rfl, hS, hT⟩
        have HS := Lib.hid hS
        have HT := Lib.hid hT
        clear hS hT
        go_wp2_with fail
        go_roundw
        case rel => exact ⟨k + 1, by omega, by go_num, HGk.out.step (s' := s.wipe f (k + 1)) HS.out HT.out (St.set_len _ _ _) (HG.out.wf.wipe f (k + 1)), HTk.out.trans HT.out⟩
        case measure => simp [intOf]; omega
      · obtain rfl : k = c.W := by omega
        go_wp2_with fail
        go_ret
        refine ⟨by unfold wipeV; rw [HB.out]; rfl, ?_, HTk.out⟩
        rw [show s.wiped c b = s.wipe f c.W by unfold St.wiped; rw [HK.out]]
        exact HGk.out

/-- A new ground, all words 0. -/
def NewG (tg ts e : TypeId) (w : World) (c : Cf) (en : Ending) (w' : World) : Prop :=
  ∃ p : Pl, en = .returned (.tuple #[.pointer (some ⟨p.a, 0, none⟩), .int .i64 0]) ∧ Grd tg ts e w' p c ⟨List.replicate c.size 0, 0⟩ ∧ (∀ k, ofG p k → w.heap.size ≤ k) ∧ Below w.heap.size w w'

theorem numsC {c : Cf} : numsV c.N c.W c.R c.K = .agg #[.int .i64 (c.size : Int), .int .i64 ((c.W : Int) - 8), .int .i64 ((c.W : Int) - 7), .int .i64 (fieldsI c.W), .int .i64 (epochI c.N c.W), .int .i64 (drainI c.N c.W), .int .i64 (lagI c.N c.W c.K), .int .i64 (settleI c.N c.W c.K)] := by
  unfold numsV
  have e : wordsI (c.N : Int) (c.W : Int) (c.R : Int) = (c.size : Int) := by
    unfold wordsI Cf.size
    simp [Int.natCast_add, Int.natCast_mul]
  rw [e]

set_option maxHeartbeats 400000 in
theorem gnew_yes (c : Cf) (w : World) (h : c.May) :
    Calls Try.prog 6 #[c.val] w (NewG 61 87 36 w c) := by
  have HM := Lib.hid h
  unfold Cf.val
  clear h
  go_enter Try.func6, Try.ntmps6
  go_wp2_with fail
  refine (ofV _ HM.out numsC).mono ?_
  rintro e w1 ⟨rfl, hb⟩
  obtain ⟨hc, hf⟩ := bcell hb
  have hz : w.heap.size < w1.heap.size := by have := hb.size; simp at this; omega
  have HB := Lib.hid (below_step (below_new w _) hb)
  clear hb
  go_wp2_with fail
  refine (new_yes c.size _ (by have := HM.out.size; omega)).mono ?_
  rintro e w2 ⟨s, g, rfl, hS, hs, hg, hb⟩
  have HS := Lib.hid hS
  have HB2 := Lib.hid hb
  have Hs := Lib.hid hs
  have Hg := Lib.hid hg
  obtain ⟨hc2, hf2⟩ := bcell hb
  have hz2 : w.heap.size < w2.heap.size := by have := hb.size; simp at this; omega
  have c0 : w2.cell? ⟨w.heap.size, 0, none⟩ = some (.int .i64 (c.N : Int)) := by rw [hc2 _ _ (by simp; omega)]; go_simp
  have c1 : w2.cell? ⟨w.heap.size, 1, none⟩ = some (.int .i64 (c.W : Int)) := by rw [hc2 _ _ (by simp; omega)]; go_simp
  have c2 : w2.cell? ⟨w.heap.size, 2, none⟩ = some (.int .i64 (c.R : Int)) := by rw [hc2 _ _ (by simp; omega)]; go_simp
  have c3 : w2.cell? ⟨w.heap.size, 3, none⟩ = some (.int .i64 (c.K : Int)) := by rw [hc2 _ _ (by simp; omega)]; go_simp
  clear hS hs hg hb hc hf hc2 hf2
  go_wp2_with fail
  go_ret2
  exact ⟨⟨w2.heap.size, s, g⟩, rfl, ⟨Blk.new w2 _ _, HS.out.alloc _, by simp, by have := HS.out.head.lt; simp; omega, by have := HS.out.body.lt; simp; omega, HM.out, WfZ.rep _⟩, by
    have h1 := HB.out.size
    have h2 := HB2.out.size
    have h3 := Hs.out
    have h4 := Hg.out
    simp at h2 h3 h4
    intro k hk
    have hk' : k = w2.heap.size ∨ k = s ∨ k = g := hk
    omega, by
    have h1 := HB.out.size
    have h2 := HB2.out.size
    simp at h2
    exact ((HB.out.alloc HB.out.size _).trans (HB2.out.mono (by simp; omega))).alloc (by omega) _⟩

theorem gnew_no (n v r k : Int) (w : World) (h : mayB n v r k = false) :
    Calls Try.prog 6 #[.agg #[.int .i64 n, .int .i64 v, .int .i64 r, .int .i64 k]] w fun e w' => e = .returned (.tuple #[.pointer none, .int .i64 1]) ∧ Below w.heap.size w w' := by
  have HM := Lib.hid h
  clear h
  go_enter Try.func6, Try.ntmps6
  go_wp2_with fail
  refine (of_no _ _ _ _ _ HM.out).mono ?_
  rintro e w1 ⟨rfl, hb⟩
  have HB := Lib.hid (below_step (below_new w _) hb)
  clear hb
  go_wp2_with fail
  go_ret2
  exact ⟨rfl, HB.out.alloc HB.out.size _⟩

end Go.Proofs.Ytgfpcamgebnfmaa.Pk
