/- The statement WholeTags holds for every input: a tag that is laid into a block is read there, piece by piece, and no other block's is another one by it. No condition. -/
import Derived.Test.YtkcfgjedhgagdaaRows
import Derived.Test.YtkcfgjedhgagdaaAwake7
import Derived.Test.YtkcfgjedhgagdaaTagRow
import Derived.Test.YtkcfgjedhgagdaaRecs
import Derived.Test.YtkcfgjedhgagdaaTame
import Derived.WalkKit
import Derived.ProofKit
import Derived.OpenShut
import Derived.ChangeOld
import Derived.Carry
import Derived.Lib.SmallJoins
import Derived.ChangeMaps5
namespace Go.Proofs.Ytkcfgjedhgagdaa.wholeTags
open Go.ChangeShapes Go.WideShapes Go.ChangeAt Go.RowKit Go.Joins
open Go.Proofs.Ytkcfgjedhgagdaa.Pk
set_option linter.unusedVariables false
set_option linter.unusedSimpArgs false

theorem own : ownKnob Try.prog.godebug = none := by kernel_rfl
theorem laidOut : laidOutB Try.prog = true := by kernel_rfl

theorem tag_of {w : World} {a : Option Addr} {rs : List (List Fld)} (hr : Recs w a [.int .i64, .int .i64, .int .i64, .int .i64, .int .i64, .int .i64, .int .i64] rs) {k : Nat} (hk : k < rs.length) :
    ∃ (b off : Nat) (t : T7), a = some ⟨b, off, none⟩ ∧ b < w.heap.size ∧ w.cell? ⟨b, off + k * 7, none⟩ = some (.int .i64 t.k) ∧ w.cell? ⟨b, off + k * 7 + 1, none⟩ = some (.int .i64 t.c) ∧
      w.cell? ⟨b, off + k * 7 + 2, none⟩ = some (.int .i64 t.n) ∧ w.cell? ⟨b, off + k * 7 + 3, none⟩ = some (.int .i64 t.s) ∧ w.cell? ⟨b, off + k * 7 + 4, none⟩ = some (.int .i64 t.d) ∧
      w.cell? ⟨b, off + k * 7 + 5, none⟩ = some (.int .i64 t.g) ∧ w.cell? ⟨b, off + k * 7 + 6, none⟩ = some (.int .i64 t.o) := by
  obtain ⟨h1, b, off, ha, hb, hc⟩ := hr k rs[k] (by simp [hk])
  generalize rs[k] = r at h1 hc
  have hl : r.length = 7 := by have := congrArg List.length h1; simpa using this
  match r, hl with
  | [f0, f1, f2, f3, f4, f5, f6], _ =>
    simp at h1
    obtain ⟨k0, k1, k2, k3, k4, k5, k6⟩ := h1
    have c0 := hc 0 f0 rfl
    have c1 := hc 1 f1 rfl
    have c2 := hc 2 f2 rfl
    have c3 := hc 3 f3 rfl
    have c4 := hc 4 f4 rfl
    have c5 := hc 5 f5 rfl
    have c6 := hc 6 f6 rfl
    cases f0 <;> simp [Fld.kd] at k0
    cases f1 <;> simp [Fld.kd] at k1
    cases f2 <;> simp [Fld.kd] at k2
    cases f3 <;> simp [Fld.kd] at k3
    cases f4 <;> simp [Fld.kd] at k4
    cases f5 <;> simp [Fld.kd] at k5
    cases f6 <;> simp [Fld.kd] at k6
    subst k0 k1 k2 k3 k4 k5 k6
    exact ⟨b, off, ⟨_, _, _, _, _, _, _⟩, ha, hb, by simpa [Fld.val] using c0.1, by simpa [Fld.val] using c1.1, by simpa [Fld.val] using c2.1, by simpa [Fld.val] using c3.1, by simpa [Fld.val] using c4.1, by simpa [Fld.val] using c5.1, by simpa [Fld.val] using c6.1⟩

/-- What holds at each loop's head. -/
structure TagsAt (w : World) (n : Nat) (p : Pl) (bw : Nat) (wr : World) (f : Nat → T7) (s : St) : Prop where
  gr : G wr p (cfT n) s
  bk : Blk wr bw (flat n f) 49
  tg : TagsIn n f s.zs
  bel : Below w.heap.size w wr
theorem TagsAt.later {w : World} {n : Nat} {p : Pl} {bw : Nat} {wr w' : World} {f : Nat → T7} {s : St} (h : TagsAt w n p bw wr f s) (hb : Below wr.heap.size wr w') : TagsAt w n p bw w' f s :=
  ⟨h.gr.later hb, h.bk.later hb, h.tg, below_step h.bel hb⟩

theorem setT (n j : Nat) (p : Pl) (s : St) (x : Int) (w : World) (hG : G w p (cfT n) s) (hj : j < n) (h0 : 0 ≤ x) (h1 : x ≤ 4294967295) :
    Calls Try.prog 26 #[.pointer (some ⟨p.a, 0, none⟩), .int .i64 (j : Int), .int .i64 0, .int .u32 x] w (GP w p (cfT n) ⟨s.zs.set (25 + j * 16) x, s.m + 1⟩ (.bool true)) := by
  have h := setword_any p (cfT n) s (j : Int) 0 x w hG h0 h1
  rw [cfT_word hj] at h
  exact h
theorem seeT (n b : Nat) (p : Pl) (s : St) (w : World) (hG : G w p (cfT n) s) (hb : b < n) :
    Calls Try.prog 27 #[.pointer (some ⟨p.a, 0, none⟩), .int .i64 (b : Int), .int .i64 0] w fun e w' => e = .returned (.int .u32 (nth s.zs (25 + b * 16))) ∧ Drw w w' := by
  have h := seeword_any p (cfT n) s (b : Int) 0 w hG
  rw [cfT_word hb] at h
  exact h
theorem unpackT (k c n s d g o : Int) (w : World) (hR : RightT k c n s d g o) :
    Calls Try.prog 28 #[.int .u32 (packI k c n s d g o)] w fun e w' => e = .returned (.agg #[.int .i64 k, .int .i64 c, .int .i64 n, .int .i64 s, .int .i64 d, .int .i64 g, .int .i64 o]) ∧ Below w.heap.size w w' := by
  have hb := packI_bd hR
  obtain ⟨e0, e1, e2, e3, e4, e5, e6⟩ := unpack_pack hR
  have h := tunpack_any (packI k c n s d g o) w hb.1 hb.2
  rw [e0, e1, e2, e3, e4, e5, e6] at h
  exact h
theorem getK (k c n s d g o : Int) (w : World) (hR : RightT k c n s d g o) :
    Calls Try.prog 29 #[.int .u32 (packI k c n s d g o), .int .i64 0, .int .i64 2] w fun e w' => e = .returned (.int .u32 k) ∧ Drw w w' := by
  have hb := packI_bd hR
  have h := get_any (packI k c n s d g o) 0 2 w hb.1 hb.2
  rw [get_uK, (unpack_pack hR).1] at h
  exact h
theorem getK_b (k c n s d g o : Int) (w : World) (hR : RightT k c n s d g o) :
    Calls Try.prog 29 #[.int .u32 (packI k c n s d g o), .int .i64 0, .int .i64 2] w fun e w' => e = .returned (.int .u32 k) ∧ Below w.heap.size w w' :=
  (getK k c n s d g o w hR).mono fun e w' h => ⟨h.1, h.2.new⟩
theorem getO (k c n s d g o : Int) (w : World) (hR : RightT k c n s d g o) :
    Calls Try.prog 29 #[.int .u32 (packI k c n s d g o), .int .i64 8, .int .i64 24] w fun e w' => e = .returned (.int .u32 o) ∧ Drw w w' := by
  have hb := packI_bd hR
  have h := get_any (packI k c n s d g o) 8 24 w hb.1 hb.2
  rw [get_uO hb.1 hb.2, (unpack_pack hR).2.2.2.2.2.2] at h
  exact h

theorem getO_b (k c n s d g o : Int) (w : World) (hR : RightT k c n s d g o) :
    Calls Try.prog 29 #[.int .u32 (packI k c n s d g o), .int .i64 8, .int .i64 24] w fun e w' => e = .returned (.int .u32 o) ∧ Below w.heap.size w w' :=
  (getO k c n s d g o w hR).mono fun e w' h => ⟨h.1, h.2.new⟩

set_option maxHeartbeats 1000000 in
theorem walk_else (n : Int) (a1 : Option Addr) (cap1 len1 : Nat) (a2 : Option Addr) (cap2 len2 : Nat) (w : World) (h : n < 1 ∨ 60 < n ∨ 60 < (len1 : Int)) :
    Calls Try.prog 9 #[.int .u8 n, .slice a1 len1 cap1, .slice a2 len2 cap2] w fun e w' => e = .returned (.bool true) ∧ Below w.heap.size w w' := by
  by_cases h1 : n < 1
  · clear h
    go_enter Try.func9, Try.ntmps9
    go_wp2_with fail
    refine (awake7_any _).mono ?_
    rintro e w1 ⟨rfl, hb⟩
    have HB1 := Lib.hid hb
    clear hb
    go_wp2_with fail
    refine (awake7_any _).mono ?_
    rintro e w2 ⟨rfl, hb⟩
    have HB2 := Lib.hid (below_step HB1.out hb)
    clear hb
    go_wp2_with fail
    go_ret
    exact ⟨rfl, HB2.out⟩
  · by_cases h2 : 60 < n
    · clear h
      go_enter Try.func9, Try.ntmps9
      go_wp2_with fail
      refine (awake7_any _).mono ?_
      rintro e w1 ⟨rfl, hb⟩
      have HB1 := Lib.hid hb
      clear hb
      go_wp2_with fail
      refine (awake7_any _).mono ?_
      rintro e w2 ⟨rfl, hb⟩
      have HB2 := Lib.hid (below_step HB1.out hb)
      clear hb
      go_wp2_with fail
      go_ret
      exact ⟨rfl, HB2.out⟩
    · have h3 : 60 < (len1 : Int) := by omega
      clear h
      go_enter Try.func9, Try.ntmps9
      go_wp2_with fail
      refine (awake7_any _).mono ?_
      rintro e w1 ⟨rfl, hb⟩
      have HB1 := Lib.hid hb
      clear hb
      go_wp2_with fail
      refine (awake7_any _).mono ?_
      rintro e w2 ⟨rfl, hb⟩
      have HB2 := Lib.hid (below_step HB1.out hb)
      clear hb
      go_wp2_with fail
      go_ret
      exact ⟨rfl, HB2.out⟩

set_option maxRecDepth 100000 in
set_option maxHeartbeats 2000000 in
theorem walk_main (n : Nat) (a1 : Option Addr) (cap1 : Nat) (rs : List (List Fld)) (a2 : Option Addr) (cap2 : Nat) (zs : List Int) (w : World) (n0 : 1 ≤ (n : Int)) (n1 : (n : Int) ≤ 60) (hl : (rs.length : Int) ≤ 60)
    (hr : Recs w a1 [.int .i64, .int .i64, .int .i64, .int .i64, .int .i64, .int .i64, .int .i64] rs) (hz : Row w .u8 a2 zs) (hzw : ∀ x ∈ zs, (Lit.int .u8 x).wf = true) (hzl : zs.length ≤ maxLen) :
    Calls Try.prog 9 #[.int .u8 (n : Int), .slice a1 rs.length cap1, .slice a2 zs.length cap2] w fun e w' => e = .returned (.bool true) ∧ Below w.heap.size w w' := by
  have HR := Lib.hid hr
  have HZ := Lib.hid hz
  have HZW := Lib.hid hzw
  have hzl' : (zs.length : Int) ≤ 9223372036854775807 := by unfold maxLen at hzl; omega
  have hmk := make_tags n .u8 (by omega)
  have HN : Hid (∀ w', Calls Try.prog 24 #[.agg #[.int .i64 (n : Int), .int .i64 16, .int .i64 1, .int .i64 1]] w' (NewG 68 89 50 w' (cfT n))) := Lib.hid (fun w' => newT n w' (by omega) (by omega))
  clear hr hz hzw hzl
  go_enter Try.func9, Try.ntmps9
  go_wp2_with fail
  refine (awake7_any _).mono ?_
  rintro e w1 ⟨rfl, hb⟩
  have HB1 := Lib.hid hb
  clear hb
  go_wp2_with fail
  refine (HN.out _).mono ?_
  rintro e w2 ⟨p, rfl, hG, hp, hb⟩
  have HB2 := Lib.hid (below_step HB1.out hb)
  have HP : Hid (∀ k, ofG p k → w.heap.size ≤ k) := Lib.hid (fun k hk => Nat.le_trans HB1.out.size (hp k hk))
  have HQ : Hid (¬ ofG p w2.heap.size) := Lib.hid (fun hk => by
    rcases hk with h | h | h
    · have := hG.head.lt; omega
    · have := hG.st.head.lt; omega
    · have := hG.st.body.lt; omega)
  have hT0 : TagsAt w n p w2.heap.size (w2.alloc (.cells (flat n (fun _ => T7.zero)) 49)) (fun _ => T7.zero) ⟨List.replicate (cfT n).size 0, 0⟩ :=
    ⟨hG.alloc _, Blk.new _ _ _, TagsIn.zero _ _, HB2.out.alloc HB2.out.size _⟩
  have HT0 := Lib.hid hT0
  have HW2 := Lib.hid HB2.out.size
  clear hG hp hb hT0
  go_wp2_with fail
  generalize w2.heap.size = bw at *
  go_loopw [47] (fun i wr => ∃ k : Nat, k ≤ rs.length ∧ i = .int .i64 k ∧ ∃ f s, TagsAt w n p bw wr f s) (fun i _ => rs.length - (intOf i).toNat)
  case atStart => exact ⟨0, Nat.zero_le _, rfl, _, _, HT0.out⟩
  case round =>
    obtain ⟨k, hk, rfl, f, s, hT⟩ := hrel
    have HT := Lib.hid hT
    clear hT
    by_cases hlt : k < rs.length
    · obtain ⟨b, off, ⟨tk, tc, tn, ts, td, tgg, to⟩, rfl, hb0, x0, x1, x2, x3, x4, x5, x6⟩ := tag_of HR.out hlt
      simp only at x0 x1 x2 x3 x4 x5 x6
      have y0 := (HT.out.bel.cell (p := ⟨b, off + k * 7, none⟩) hb0).trans x0
      have y1 := (HT.out.bel.cell (p := ⟨b, off + k * 7 + 1, none⟩) hb0).trans x1
      have y2 := (HT.out.bel.cell (p := ⟨b, off + k * 7 + 2, none⟩) hb0).trans x2
      have y3 := (HT.out.bel.cell (p := ⟨b, off + k * 7 + 3, none⟩) hb0).trans x3
      have y4 := (HT.out.bel.cell (p := ⟨b, off + k * 7 + 4, none⟩) hb0).trans x4
      have y5 := (HT.out.bel.cell (p := ⟨b, off + k * 7 + 5, none⟩) hb0).trans x5
      have y6 := (HT.out.bel.cell (p := ⟨b, off + k * 7 + 6, none⟩) hb0).trans x6
      clear x0 x1 x2 x3 x4 x5 x6 hb0
      cases hright : rightB tk tc tn ts td tgg to with
      | false =>
        have EE := Lib.hid (packE_no hright)
        have EV := Lib.hid (packV_no hright)
        clear hright
        go_wp2_with fail
        refine (tpackV_any _ _ _ _ _ _ _ _).mono ?_
        rw [EE.out, EV.out]
        rintro e w3 ⟨rfl, hb⟩
        have HT3 := Lib.hid (HT.out.later (below_step (below_new wr _) hb))
        clear hb
        go_wp2_with fail
        go_roundw
        case rel => exact ⟨k + 1, by omega, by go_num, _, _, HT3.out⟩
        case measure => simp [intOf]; omega
      | true =>
        have EE := Lib.hid (packE_yes hright)
        have EV := Lib.hid (packV_yes hright)
        have hRt := rightB_yes hright
        have hbd := packI_bd hRt
        have HRt := Lib.hid hRt
        clear hright hRt
        by_cases hq : k < zs.length
        · obtain ⟨b2, o2, rfl, hb2, hc2⟩ := HZ.out k hq
          have hv := bounds_u8 (HZW.out (nth zs k) (by unfold nth; simp [List.getD, hq]))
          obtain ⟨j, hj, hjn⟩ : ∃ j : Nat, nth zs k % (n : Int) = (j : Int) ∧ j < n := by
            have h1 := Int.emod_nonneg (nth zs k) (show (n : Int) ≠ 0 by omega)
            have h2 := Int.emod_lt_of_pos (nth zs k) (show 0 < (n : Int) by omega)
            obtain ⟨j, hj⟩ := Int.eq_ofNat_of_zero_le h1
            exact ⟨j, hj, by omega⟩
          have HB2' := Lib.hid hb2
          have HC2 := Lib.hid hc2
          have g2 : ((n : Int) == 0) = false := by rw [beq_eq_false_iff_ne]; omega
          clear hb2 hc2
          go_wp2_with fail
          refine (tpackV_any _ _ _ _ _ _ _ _).mono ?_
          rw [EE.out, EV.out]
          rintro e w3 ⟨rfl, hb⟩
          have HT3 := Lib.hid (HT.out.later (below_step (below_new wr _) hb))
          have HK3 := Lib.hid ((Blk.new wr #[.int .i64 tk, .int .i64 tc, .int .i64 tn, .int .i64 ts, .int .i64 td, .int .i64 tgg, .int .i64 to] 49).later hb)
          have z2 := (HT3.out.bel.cell (p := ⟨b2, o2 + k, none⟩) HB2'.out).trans HC2.out
          clear hb y0 y1 y2 y3 y4 y5 y6
          go_wp2_with fail
          refine (setT n j p s _ _ HT3.out.gr hjn hbd.1 hbd.2).mono ?_
          rintro e w4 ⟨rfl, hG4, hTc⟩
          have hnk : ¬ inG p wr.heap.size := by
            have h1 := HT.out.gr.st.head.lt
            have h2 := HT.out.gr.st.body.lt
            rintro (h | h) <;> omega
          have hK4 := HK3.out.touch hTc hnk
          have hW4 := HT3.out.bk.touch hTc (fun h => HQ.out (.inr h))
          have HG4 := Lib.hid hG4
          have HW4 := Lib.hid hW4
          have HB4 := Lib.hid (HT3.out.bel.trans (hTc.below (B := w.heap.size) (fun k hk => HP.out k (.inr hk)) HT3.out.bel.size))
          have v0 := hK4.cell 0 rfl
          have v1 := hK4.cell 1 rfl
          have v2 := hK4.cell 2 rfl
          have v3 := hK4.cell 3 rfl
          have v4 := hK4.cell 4 rfl
          have v5 := hK4.cell 5 rfl
          have v6 := hK4.cell 6 rfl
          have u0 := hW4.cell (j * 7) (flat_get f hjn (j := 0) (by decide))
          have u1 := hW4.cell (j * 7 + 1) (flat_get f hjn (j := 1) (by decide))
          have u2 := hW4.cell (j * 7 + 2) (flat_get f hjn (j := 2) (by decide))
          have u3 := hW4.cell (j * 7 + 3) (flat_get f hjn (j := 3) (by decide))
          have u4 := hW4.cell (j * 7 + 4) (flat_get f hjn (j := 4) (by decide))
          have u5 := hW4.cell (j * 7 + 5) (flat_get f hjn (j := 5) (by decide))
          have u6 := hW4.cell (j * 7 + 6) (flat_get f hjn (j := 6) (by decide))
          have f0 := hW4.free (j * 7)
          have f1 := hW4.free (j * 7 + 1)
          have f2 := hW4.free (j * 7 + 2)
          have f3 := hW4.free (j * 7 + 3)
          have f4 := hW4.free (j * 7 + 4)
          have f5 := hW4.free (j * 7 + 5)
          have f6 := hW4.free (j * 7 + 6)
          clear hTc hK4 hW4 hG4 z2 hnk
          go_wp2_with fail
          go_roundw
          case rel => exact ⟨k + 1, by omega, by go_num, upd f j ⟨tk, tc, tn, ts, td, tgg, to⟩, _, by
            have hTo := put7_touch w4 bw j ⟨tk, tc, tn, ts, td, tgg, to⟩
            show TagsAt w n p bw (put7 w4 bw j ⟨tk, tc, tn, ts, td, tgg, to⟩) _ _
            refine ⟨HG4.out.touch hTo (fun q hq e => HQ.out (by subst e; exact hq)), put7_blk HW4.out hjn _, ?_, ?_⟩
            · exact HT3.out.tg.put hjn (t := ⟨tk, tc, tn, ts, td, tgg, to⟩) HRt.out (by rw [HT3.out.gr.len, cfT_size]; omega)
            · exact HB4.out.trans (hTo.below (B := w.heap.size) (fun q hq => by subst hq; exact HW2.out) HB4.out.size)⟩
          case measure => simp [intOf]; omega
        · go_wp2_with fail
          refine (tpackV_any _ _ _ _ _ _ _ _).mono ?_
          rw [EE.out, EV.out]
          rintro e w3 ⟨rfl, hb⟩
          have HT3 := Lib.hid (HT.out.later (below_step (below_new wr _) hb))
          clear hb
          go_wp2_with fail
          go_roundw
          case rel => exact ⟨k + 1, by omega, by go_num, _, _, HT3.out⟩
          case measure => simp [intOf]; omega
    · go_wp2_with fail
      go_loopw [84] (fun i wr => ∃ k : Nat, k ≤ n ∧ i = .int .i64 k ∧ ∃ f s, TagsAt w n p bw wr f s) (fun i _ => n - (intOf i).toNat)
      case atStart => exact ⟨0, Nat.zero_le _, rfl, _, _, HT.out⟩
      case round =>
        obtain ⟨q, hq, rfl, f2, s2, hT⟩ := hrel
        have HT2 := Lib.hid hT
        clear hT
        by_cases hlt2 : q < n
        · obtain ⟨⟨tk, tc, tn, ts, td, tgg, to⟩, hfq⟩ : ∃ t, f2 q = t := ⟨_, rfl⟩
          have hin := HT2.out.tg q hlt2
          rw [hfq] at hin
          have hRt : RightT tk tc tn ts td tgg to := hin.1
          have hwd : nth s2.zs (25 + q * 16) = packI tk tc tn ts td tgg to := hin.2
          have hkb : 0 ≤ tk ∧ tk < 4 := hRt.1
          have hob : 0 ≤ to ∧ to < 1048576 := hRt.2.1
          have hce : ∀ j, j < 7 → wr.cell? ⟨bw, q * 7 + j, none⟩ = some ((⟨tk, tc, tn, ts, td, tgg, to⟩ : T7).at j) := fun j hj => by
            rw [← hfq]; exact HT2.out.bk.cell (q * 7 + j) (flat_get f2 hlt2 hj)
          have y0 : wr.cell? ⟨bw, q * 7, none⟩ = some (.int .i64 tk) := hce 0 (by decide)
          have y1 : wr.cell? ⟨bw, q * 7 + 1, none⟩ = some (.int .i64 tc) := hce 1 (by decide)
          have y2 : wr.cell? ⟨bw, q * 7 + 2, none⟩ = some (.int .i64 tn) := hce 2 (by decide)
          have y3 : wr.cell? ⟨bw, q * 7 + 3, none⟩ = some (.int .i64 ts) := hce 3 (by decide)
          have y4 : wr.cell? ⟨bw, q * 7 + 4, none⟩ = some (.int .i64 td) := hce 4 (by decide)
          have y5 : wr.cell? ⟨bw, q * 7 + 5, none⟩ = some (.int .i64 tgg) := hce 5 (by decide)
          have y6 : wr.cell? ⟨bw, q * 7 + 6, none⟩ = some (.int .i64 to) := hce 6 (by decide)
          have HRt := Lib.hid hRt
          have HWd := Lib.hid hwd
          clear hfq hin hRt hwd hce
          go_wp2_with fail
          refine (seeT n q p s2 _ (HT2.out.gr.alloc _) hlt2).mono ?_
          rw [HWd.out]
          rintro e w6 ⟨rfl, hd⟩
          have HT6 := Lib.hid (HT2.out.later (below_step (below_new wr _) hd.new))
          have hBk := (Blk.new wr #[.int .i64 tk, .int .i64 tc, .int .i64 tn, .int .i64 ts, .int .i64 td, .int .i64 tgg, .int .i64 to] 49).later hd.new
          have HBk := Lib.hid hBk
          have c0 := hBk.cell 0 rfl
          have c1 := hBk.cell 1 rfl
          have c2 := hBk.cell 2 rfl
          have c3 := hBk.cell 3 rfl
          have c4 := hBk.cell 4 rfl
          have c5 := hBk.cell 5 rfl
          have c6 := hBk.cell 6 rfl
          have i1 : IntKind.i64.wrap tk = tk := IntWalk.i64_in _ (by omega)
          have i2 : IntKind.i64.wrap to = to := IntWalk.i64_in _ (by omega)
          clear hBk hd y0 y1 y2 y3 y4 y5 y6
          go_wp2_with fail
          have hBlt : wr.heap.size < w6.heap.size := HBk.out.lt
          have c0 := fun w' (hC : Below w6.heap.size w6 w') => (hC.cell (p := ⟨wr.heap.size, 0, none⟩) (by have := hBlt; simp; omega)).trans (show _ = some (.int .i64 tk) from c0)
          have c1 := fun w' (hC : Below w6.heap.size w6 w') => (hC.cell (p := ⟨wr.heap.size, 1, none⟩) (by have := hBlt; simp; omega)).trans (show _ = some (.int .i64 tc) from c1)
          have c2 := fun w' (hC : Below w6.heap.size w6 w') => (hC.cell (p := ⟨wr.heap.size, 2, none⟩) (by have := hBlt; simp; omega)).trans (show _ = some (.int .i64 tn) from c2)
          have c3 := fun w' (hC : Below w6.heap.size w6 w') => (hC.cell (p := ⟨wr.heap.size, 3, none⟩) (by have := hBlt; simp; omega)).trans (show _ = some (.int .i64 ts) from c3)
          have c4 := fun w' (hC : Below w6.heap.size w6 w') => (hC.cell (p := ⟨wr.heap.size, 4, none⟩) (by have := hBlt; simp; omega)).trans (show _ = some (.int .i64 td) from c4)
          have c5 := fun w' (hC : Below w6.heap.size w6 w') => (hC.cell (p := ⟨wr.heap.size, 5, none⟩) (by have := hBlt; simp; omega)).trans (show _ = some (.int .i64 tgg) from c5)
          have c6 := fun w' (hC : Below w6.heap.size w6 w') => (hC.cell (p := ⟨wr.heap.size, 6, none⟩) (by have := hBlt; simp; omega)).trans (show _ = some (.int .i64 to) from c6)
          refine wp_region_tame_all [Fact.is (.int .u32 (packI tk tc tn ts td tgg to)), Fact.is (.agg #[.int .i64 tk, .int .i64 tc, .int .i64 tn, .int .i64 ts, .int .i64 td, .int .i64 tgg, .int .i64 to]), Fact.is (.agg #[.int .i64 tk, .int .i64 tc, .int .i64 tn, .int .i64 ts, .int .i64 td, .int .i64 tgg, .int .i64 to]), Fact.is (.bool false), Fact.is (.bool false), Fact.is (.int .u32 (packI tk tc tn ts td tgg to)), Fact.is (.int .u32 tk), Fact.is (.int .i64 tk), Fact.is (.pointer (some ⟨wr.heap.size, 0, none⟩)), Fact.is (.int .i64 tk), Fact.is (.bool false), Fact.is (.bool false), Fact.is (.bool false), Fact.is (.int .u32 (packI tk tc tn ts td tgg to)), Fact.is (.int .u32 to), Fact.is (.int .i64 to), Fact.is (.pointer (some ⟨wr.heap.size, 6, none⟩)), Fact.is (.int .i64 to), Fact.is (.bool false), Fact.is (.bool false)] (by kernel_rfl) (by kernel_rfl) rfl (by kernel_rfl) (fun ops K2 hops hK => ?_)
          refine walkT_is (wantedN rfl) (fun w' hC hd => tame_move _ (.inl rfl) rfl) (by go_frame; rfl) (by simp only [List.nil_append, List.cons_append]; rfl) ?_
          refine walkT_is (wantedN rfl) (fun w' hC hd => tame_1 92 (.int .u32 (packI tk tc tn ts td tgg to)) rfl (fun ρ hρ hf e0 => upon_call_below (f := 28) (by go_simp) (unpackT _ _ _ _ _ _ _ w' HRt.out))) (by go_frame; rfl) (by simp only [List.nil_append, List.cons_append]; rfl) ?_
          refine walkT_is (wantedN rfl) (fun w' hC hd => tame_1 16 (.pointer (some ⟨wr.heap.size, 0, none⟩)) rfl (fun ρ hρ hf e0 => upon_is (by have hc0 := c0 w' hC; have hc1 := c1 w' hC; have hc2 := c2 w' hC; have hc3 := c3 w' hC; have hc4 := c4 w' hC; have hc5 := c5 w' hC; have hc6 := c6 w' hC; go_simp))) (by go_frame; rfl) (by simp only [List.nil_append, List.cons_append]; rfl) ?_
          refine walkT_is (wantedN rfl) (fun w' hC hd => tame_2 93 (.agg #[.int .i64 tk, .int .i64 tc, .int .i64 tn, .int .i64 ts, .int .i64 td, .int .i64 tgg, .int .i64 to]) 94 (.agg #[.int .i64 tk, .int .i64 tc, .int .i64 tn, .int .i64 ts, .int .i64 td, .int .i64 tgg, .int .i64 to]) rfl rfl (fun ρ hρ hf e0 e1 => upon_is (by go_simp))) (by go_frame; rfl) (by simp only [List.nil_append, List.cons_append]; rfl) ?_
          refine walkT_is (wantedN rfl) (fun w' hC hd => tame_move _ (.inl rfl) rfl) (by go_frame; rfl) (by simp only [List.nil_append, List.cons_append]; rfl) ?_
          refine walkT_is (wantedT hops rfl rfl rfl rfl) (fun w' hC hd => tame_move _ (.inl rfl) rfl) (by go_frame; rfl) (by simp only [List.nil_append, List.cons_append]; rfl) ?_
          refine walkT_is (wantedT hops rfl rfl rfl rfl) (fun w' hC hd => tame_1 97 (.int .u32 (packI tk tc tn ts td tgg to)) rfl (fun ρ hρ hf e0 => upon_call_below (f := 29) (by go_simp) (getK_b _ _ _ _ _ _ _ w' HRt.out))) (by go_frame; rfl) (by simp only [List.nil_append, List.cons_append]; rfl) ?_
          refine walkT_is (wantedT hops rfl rfl rfl rfl) (fun w' hC hd => tame_1 98 (.int .u32 tk) rfl (fun ρ hρ hf e0 => upon_is (by have hb0 := i1; go_simp))) (by go_frame; rfl) (by simp only [List.nil_append, List.cons_append]; rfl) ?_
          refine walkT_is (wantedT hops rfl rfl rfl rfl) (fun w' hC hd => tame_1 16 (.pointer (some ⟨wr.heap.size, 0, none⟩)) rfl (fun ρ hρ hf e0 => upon_is (by go_simp))) (by go_frame; rfl) (by simp only [List.nil_append, List.cons_append]; rfl) ?_
          refine walkT_is (wantedT hops rfl rfl rfl rfl) (fun w' hC hd => tame_1 100 (.pointer (some ⟨wr.heap.size, 0, none⟩)) rfl (fun ρ hρ hf e0 => upon_is (by have hc0 := c0 w' hC; go_simp))) (by go_frame; rfl) (by simp only [List.nil_append, List.cons_append]; rfl) ?_
          refine walkT_is (wantedT hops rfl rfl rfl rfl) (fun w' hC hd => tame_2 99 (.int .i64 tk) 101 (.int .i64 tk) rfl rfl (fun ρ hρ hf e0 e1 => upon_is (by go_simp))) (by go_frame; rfl) (by simp only [List.nil_append, List.cons_append]; rfl) ?_
          refine walkT_is (wantedN rfl) (fun w' hC hd => tame_pick _ _ _ false rfl rfl rfl) (by go_frame; rfl) (by simp only [List.nil_append, List.cons_append]; rfl) ?_
          refine walkT_is (wantedN rfl) (fun w' hC hd => tame_move _ (.inl rfl) rfl) (by go_frame; rfl) (by simp only [List.nil_append, List.cons_append]; rfl) ?_
          refine walkT_is (wantedT hops rfl rfl rfl rfl) (fun w' hC hd => tame_move _ (.inl rfl) rfl) (by go_frame; rfl) (by simp only [List.nil_append, List.cons_append]; rfl) ?_
          refine walkT_is (wantedT hops rfl rfl rfl rfl) (fun w' hC hd => tame_1 105 (.int .u32 (packI tk tc tn ts td tgg to)) rfl (fun ρ hρ hf e0 => upon_call_below (f := 29) (by go_simp) (getO_b _ _ _ _ _ _ _ w' HRt.out))) (by go_frame; rfl) (by simp only [List.nil_append, List.cons_append]; rfl) ?_
          refine walkT_is (wantedT hops rfl rfl rfl rfl) (fun w' hC hd => tame_1 106 (.int .u32 to) rfl (fun ρ hρ hf e0 => upon_is (by have hb0 := i2; go_simp))) (by go_frame; rfl) (by simp only [List.nil_append, List.cons_append]; rfl) ?_
          refine walkT_is (wantedT hops rfl rfl rfl rfl) (fun w' hC hd => tame_1 16 (.pointer (some ⟨wr.heap.size, 0, none⟩)) rfl (fun ρ hρ hf e0 => upon_is (by go_simp))) (by go_frame; rfl) (by simp only [List.nil_append, List.cons_append]; rfl) ?_
          refine walkT_is (wantedT hops rfl rfl rfl rfl) (fun w' hC hd => tame_1 108 (.pointer (some ⟨wr.heap.size, 6, none⟩)) rfl (fun ρ hρ hf e0 => upon_is (by have hc0 := c6 w' hC; go_simp))) (by go_frame; rfl) (by simp only [List.nil_append, List.cons_append]; rfl) ?_
          refine walkT_is (wantedT hops rfl rfl rfl rfl) (fun w' hC hd => tame_2 107 (.int .i64 to) 109 (.int .i64 to) rfl rfl (fun ρ hρ hf e0 e1 => upon_is (by go_simp))) (by go_frame; rfl) (by simp only [List.nil_append, List.cons_append]; rfl) ?_
          refine walkT_is (wantedN rfl) (fun w' hC hd => tame_pick _ _ _ false rfl rfl rfl) (by go_frame; rfl) (by simp only [List.nil_append, List.cons_append]; rfl) ?_
          refine walkT_nil fun w7 hC7 _ => hK _ _ ?_
          have HT9 := Lib.hid (HT6.out.later hC7)
          clear c0 c1 c2 c3 c4 c5 c6 hC7
          go_wp2_with fail
          go_roundw
          case rel => exact ⟨q + 1, by omega, by go_num, _, _, HT9.out⟩
          case measure => simp [intOf]; omega
        · have HB5 := Lib.hid HT2.out.bel
          go_wp2_with fail
          go_ret
          exact ⟨rfl, HB5.out⟩

theorem walk (n : Int) (a1 : Option Addr) (cap1 : Nat) (rs : List (List Fld)) (a2 : Option Addr) (cap2 : Nat) (zs : List Int) (w : World) (hn : (Lit.int .u8 n).wf = true)
    (hr : Recs w a1 [.int .i64, .int .i64, .int .i64, .int .i64, .int .i64, .int .i64, .int .i64] rs) (hm : rs.length ≤ maxLen) (hz : Row w .u8 a2 zs) (hzl : zs.length ≤ maxLen) (hzw : ∀ x ∈ zs, (Lit.int .u8 x).wf = true) :
    Calls Try.prog 9 #[.int .u8 n, .slice a1 rs.length cap1, .slice a2 zs.length cap2] w fun e w' => e = .returned (.bool true) ∧ Below w.heap.size w w' := by
  by_cases h : n < 1 ∨ 60 < n ∨ 60 < (rs.length : Int)
  · exact walk_else n a1 cap1 _ a2 cap2 _ w h
  · obtain ⟨m, rfl⟩ := Int.eq_ofNat_of_zero_le (show 0 ≤ n by omega)
    exact walk_main m a1 cap1 rs a2 cap2 zs w (by omega) (by omega) (by omega) hr hz hzw hzl

/-! ### The row -/
set_option maxRecDepth 100000 in
theorem lifted (os : Os) (started : os.Started) (H : Type) (enc : TypeId × Value → H) :
    ReturnsInHanded {} Try.checked os 9 .any (Rows.wholeTagsSpec.pre6 enc Try.prog Try.f9 Rows.wholeTagsRow.domain false) (Rows.wholeTagsSpec.post enc Try.prog Try.f9 false true false false) := by
  refine returnsInHanded_of_change (C := Try.checked) own started (by kernel_rfl) Try.func9
    (ChangeSpec.witness6 (enc := enc) (C := Try.checked) false ⟨#[], #[.int .u8 0, .slice none 0 0, .slice none 0 0], []⟩ 8 (by kernel_rfl) (by kernel_rfl) (by kernel_rfl) (by kernel_rfl)) ?_
  intro W base args ds gs before hval0 hW hcnd _
  have hval : ∀ (j : Nat) t v, Try.f9.params[j]? = some t → args[j]? = some v → Value.okWide Try.prog W .any base t v := hval0
  have hW' := hW
  obtain ⟨p, q, hA0, hV, rfl, hfz, hnd⟩ := hW
  have hA : DataW.TrodAll enc Try.prog W 0 (fun _ => true) true Try.f9.params.toList args.toList ds p := hA0
  rw [Try.params9] at hA hval
  obtain ⟨v0, vs0, d0, ds0, p0, q0, hargs, rfl, rfl, h0, r0⟩ := trodAll_cons hA
  obtain ⟨v1, vs1, d1, ds1, p1, q1, rfl, rfl, rfl, h1, r1⟩ := trodAll_cons r0
  obtain ⟨v2, vs2, d2, ds2, p2, q2, rfl, rfl, rfl, h2, r2⟩ := trodAll_cons r1
  obtain ⟨rfl, rfl, rfl⟩ := trodAll_nil r2
  obtain rfl : args = #[v0, v1, v2] := by cases args; simp_all
  obtain ⟨rfl, rfl⟩ := trodVars_none hV
  have k0 := h0
  have lt0 : ∀ x ∈ p0, x.block < W.heap.size := by obtain ⟨m, hm⟩ := k0; exact DataW.trod_lt m _ _ _ hm
  obtain ⟨a0, rfl, hd0, hp0, w0⟩ := open_int Try.underlying5 (hval 0 5 v0 rfl rfl) h0
  have k1 := h1
  have lt1 : ∀ x ∈ p1, x.block < W.heap.size := by obtain ⟨m, hm⟩ := k1; exact DataW.trod_lt m _ _ _ hm
  obtain ⟨a1, len1, cap1, rfl⟩ := okWide_slice Try.underlying43 (hval 1 43 v1 rfl rfl)
  obtain ⟨z1, hl1, ro1, m1⟩ : ∃ rs : List (List Fld), len1 = rs.length ∧ Recs W a1 [.int .i64, .int .i64, .int .i64, .int .i64, .int .i64, .int .i64, .int .i64] rs ∧ len1 ≤ maxLen := by
    obtain ⟨fuel, hf⟩ := h1
    rcases open_recs Try.underlying43 Try.underlying49 (by kernel_rfl) (by kernel_rfl) [.int .i64, .int .i64, .int .i64, .int .i64, .int .i64, .int .i64, .int .i64] (by decide) ⟨Try.underlying3, Try.underlying3, Try.underlying3, Try.underlying3, Try.underlying3, Try.underlying3, Try.underlying3, trivial⟩ hf with hcs | ⟨x, l, c, rs, hcs, hm, hl, hr⟩
    · simp [Value.cells] at hcs
      obtain ⟨rfl, rfl, rfl⟩ := hcs
      exact ⟨[], rfl, Recs.nil _ _ _, Nat.zero_le _⟩
    · simp [Value.cells] at hcs
      obtain ⟨rfl, rfl, rfl⟩ := hcs
      exact ⟨rs, hl.symm, hr, hm⟩
  subst hl1
  have k2 := h2
  have lt2 : ∀ x ∈ p2, x.block < W.heap.size := by obtain ⟨m, hm⟩ := k2; exact DataW.trod_lt m _ _ _ hm
  obtain ⟨a2, len2, cap2, rfl⟩ := okWide_slice Try.underlying44 (hval 2 44 v2 rfl rfl)
  obtain ⟨z2, hl2, ro2, f2, m2⟩ : ∃ zs : List Int, len2 = zs.length ∧ Row W .u8 a2 zs ∧ (∀ n ∈ zs, (Lit.int .u8 n).wf = true) ∧ len2 ≤ maxLen := by
    obtain ⟨fuel, hf⟩ := h2
    rcases open_ints Try.underlying44 Try.underlying5 (by kernel_rfl) hf with ⟨hcs, _⟩ | ⟨x, l, c, zs, hcs, _, hl, hm, hz, _, hcell, hwz⟩
    · simp [Value.cells] at hcs
      obtain ⟨rfl, rfl, rfl⟩ := hcs
      exact ⟨[], rfl, Row.nil _ _ _, (fun n h => by simp at h), Nat.zero_le _⟩
    · simp [Value.cells] at hcs
      obtain ⟨rfl, rfl, rfl⟩ := hcs
      exact row_open hl hm (by simpa using hz) hcell hwz
  subst hl2
  clear hA0 hval0
  refine (walk a0 a1 cap1 z1 a2 cap2 z2 W w0 ro1 m1 ro2 m2 f2).mono fun e W' ⟨he, bel⟩ => ?_
  subst he
  exact ⟨_, rfl, _, _, _, [], _, [], hW', trodAll_mk1 (shut_bool Try.underlying4 _), (trodAll_cons_mk (Below.trod laidOut (by kernel_rfl) (of_decide_eq_true (by kernel_rfl)) k0 bel lt0) (trodAll_cons_mk (Below.trod laidOut (by kernel_rfl) (of_decide_eq_true (by kernel_rfl)) k1 bel lt1) (trodAll_cons_mk (Below.trod laidOut (by kernel_rfl) (of_decide_eq_true (by kernel_rfl)) k2 bel lt2) trodAll_mk0))), rfl, bel.frame _, fun h => by cases h⟩

theorem over : Rows.wholeTagsRow.holds Try.pinned (OpenSpec.ofChange Rows.wholeTagsSpec) :=
  OpenClaim.holds_of_wide 9 Try.f9 rfl rfl rfl rfl rfl rfl rfl ⟨rfl, rfl, rfl, rfl, rfl⟩ rfl rfl rfl rfl rfl (by kernel_rfl) Try.func9 (by kernel_rfl)
    (of_decide_eq_true (by kernel_rfl)) (by unfold Func.isWrapper; first | (rw [if_pos (by decide +kernel)]; kernel_rfl) | (rw [if_neg (by decide +kernel)]; exact ⟨rfl, rfl⟩))
    (fun os started H enc _ => lifted os started H enc)

theorem proved : Rows.WholeTagsSaid := over
#print axioms proved
end Go.Proofs.Ytkcfgjedhgagdaa.wholeTags
