/-
  Layer 9: the law of plays, of a package ring that does what it must.
-/
import Derived.Test.YtdiegmbaiibndaaRingBegun
import Derived.Test.YtdiegmbaiibndaaRingStands
import Derived.Test.YtdiegmbaiibndaaRecs
import Derived.Deep.RegionWith
namespace Go.Proofs.Ytdiegmbaiibndaa.Pk
open Go.RowKit
set_option linter.unusedVariables false
set_option linter.unusedSimpArgs false

theorem ract_of {w : World} {a : Option Addr} {rs : List (List Fld)} (hr : Recs w a [.int .u8, .int .i64] rs) {k : Nat} (hk : k < rs.length) :
    ∃ (b off : Nat) (kind i : Int), a = some ⟨b, off, none⟩ ∧ b < w.heap.size ∧ w.cell? ⟨b, off + k * 2, none⟩ = some (.int .u8 kind) ∧ w.cell? ⟨b, off + k * 2 + 1, none⟩ = some (.int .i64 i) := by
  obtain ⟨h1, b, off, ha, hb, hc⟩ := hr k rs[k] (by simp [hk])
  generalize rs[k] = r at h1 hc
  have hl : r.length = 2 := by have := congrArg List.length h1; simpa using this
  match r, hl with
  | [f0, f1], _ =>
    simp at h1
    obtain ⟨k0, k1⟩ := h1
    have c0 := hc 0 f0 rfl
    have c1 := hc 1 f1 rfl
    cases f0 <;> simp [Fld.kd] at k0
    cases f1 <;> simp [Fld.kd] at k1
    subst k0 k1
    exact ⟨b, off, _, _, ha, hb, by simpa [Fld.val] using c0.1, by simpa [Fld.val] using c1.1⟩

theorem ringPlays_out (F : RingFns) (a : Option Addr) (cap n : Nat) (a2 : Option Addr) (cap2 len2 : Nat) (w : World) (h : n < 1 ∨ 60 < n ∨ 200 < len2) (hm : n ≤ maxLen) (hm2 : len2 ≤ maxLen) :
    Calls Try.prog 3 #[.slice a n cap, .slice a2 len2 cap2] w fun e w' => e = .returned (.bool true) ∧ Below w.heap.size w w' := by
  unfold maxLen at hm hm2
  by_cases h0 : n < 1
  · have g0 : (n : Int) < 1 := by omega
    clear h h0
    go_enter Try.func3, Try.ntmps3
    go_wp2_with fail
    refine (begun9_any F _).mono ?_
    rintro e w9 ⟨rfl, hb⟩
    go_wp2_with fail
    go_ret
    exact ⟨rfl, hb⟩
  · have g0 : ¬ (n : Int) < 1 := by omega
    by_cases h1 : 60 < n
    · have g1 : 60 < (n : Int) := by omega
      clear h h0 h1
      go_enter Try.func3, Try.ntmps3
      go_wp2_with fail
      refine (begun9_any F _).mono ?_
      rintro e w9 ⟨rfl, hb⟩
      go_wp2_with fail
      go_ret
      exact ⟨rfl, hb⟩
    · have g1 : ¬ 60 < (n : Int) := by omega
      have g2 : 200 < (len2 : Int) := by omega
      clear h h0 h1
      go_enter Try.func3, Try.ntmps3
      go_wp2_with fail
      refine (begun9_any F _).mono ?_
      rintro e w9 ⟨rfl, hb⟩
      go_wp2_with fail
      go_ret
      exact ⟨rfl, hb⟩

set_option maxRecDepth 100000 in
set_option maxHeartbeats 2000000 in
theorem ringPlays_few (F : RingFns) (a : Option Addr) (cap n : Nat) (ks : List Int) (a2 : Option Addr) (cap2 : Nat) (rs : List (List Fld)) (w : World) (h0 : 1 ≤ n) (h1 : n ≤ 60) (h2 : rs.length ≤ 200) (hr : Row w .u8 a ks) (hn : n = ks.length) (hk : Kinds ks) (hrs : Recs w a2 [.int .u8, .int .i64] rs) :
    Calls Try.prog 3 #[.slice a n cap, .slice a2 rs.length cap2] w fun e w' => e = .returned (.bool true) ∧ Below w.heap.size w w' := by
  have HRk := Lib.hid hr
  have HN := Lib.hid hn
  have HK := Lib.hid hk
  have HRs := Lib.hid hrs
  have g0 : ¬ (n : Int) < 1 := by omega
  have g1 : ¬ 60 < (n : Int) := by omega
  have g2 : ¬ 200 < (rs.length : Int) := by omega
  clear hr hn hk hrs
  go_enter Try.func3, Try.ntmps3
  go_wp2_with fail
  refine (made_any a cap n ks _ HRk.out HN.out HK.out h0 (by omega)).mono ?_
  rintro e w1 ⟨p, s0, rfl, hG, hM, hp, hb⟩
  have hL0 := Made.like (c := cfR n) hM hG.may
  have HP : Hid (∀ k, inG p k → w.heap.size ≤ k) := Lib.hid (fun k hk => hp k (Or.inr hk))
  have HOk : Hid (RowOut (inG p) a ks) := Lib.hid (HRk.out.out HP.out)
  have hp0 : ∃ (l : List Nat) (s : St) (al : Option Addr) (cl : Nat), (Value.slice none 0 0 = .slice al l.length cl) ∧ AtR w1 p n s ks l a al ∧ l.length ≤ 0 ∧ Below w.heap.size w w1 :=
    ⟨[], s0, none, 0, rfl, ⟨hG, hL0, HN.out, HK.out, HRk.out.later hb, HOk.out, Row.nil _ _ _, (fun h => absurd h (by simp [ints])), by simp⟩, Nat.le_refl _, hb⟩
  clear hG hM hp hb hL0
  go_wp2_with fail
  go_loopw [7, 34] (fun v i wr => ∃ k : Nat, k ≤ rs.length ∧ i = .int .i64 (k : Int) ∧ ∃ (l : List Nat) (s : St) (al : Option Addr) (cl : Nat), (v = .slice al l.length cl) ∧ AtR wr p n s ks l a al ∧ l.length ≤ k ∧ Below w.heap.size w wr) (fun _ i _ => rs.length - (intOf i).toNat)
  case atStart => exact ⟨0, Nat.zero_le _, rfl, hp0⟩
  case round =>
    obtain ⟨k, hk, rfl, l, s, al, cl, rfl, hA, hlk, hbel⟩ := hrel
    clear hp0
    have HBe := Lib.hid hbel
    by_cases hlt : k < rs.length
    · obtain ⟨b, off, kind, i, rfl, hb0, x0, x1⟩ := ract_of HRs.out hlt
      have y0 := (hbel.cell (p := ⟨b, off + k * 2, none⟩) hb0).trans x0
      have y1 := (hbel.cell (p := ⟨b, off + k * 2 + 1, none⟩) hb0).trans x1
      have HA : Hid (AtR (wr.alloc (.cells #[.int .u8 kind, .int .i64 i] 30)) p n s ks l a al) := Lib.hid ⟨hA.gr.alloc _, hA.like, hA.hn, hA.hk, hA.rk.alloc _, hA.ok, hA.r.alloc _, hA.o, hA.hl⟩
      have HB1 : Hid (Below w.heap.size w (wr.alloc (.cells #[.int .u8 kind, .int .i64 i] 30))) := Lib.hid (hbel.alloc hbel.size _)
      clear hA hbel x0 x1 hb0
      go_wp2_with fail
      refine (rdo_any F p n s ks l a al cap cl kind i _ HA.out).mono ?_
      rintro e w2 ⟨l2, a2', cap2', s2, rfl, hG2, hL2, hr2, ho2, hl2, hT2⟩
      have HG := Lib.hid hG2
      have HL2 := Lib.hid hL2
      have HR := Lib.hid hr2
      have HO2 := Lib.hid ho2
      have HRk2 := Lib.hid (HA.out.rk.touch hT2 HOk.out)
      have HB2 := Lib.hid (HB1.out.trans (hT2.below (B := w.heap.size) HP.out HB1.out.size))
      have hl2k : l2.length ≤ k + 1 := by omega
      clear hG2 hL2 hr2 ho2 hl2 hT2
      have HT0 : Hid (Below w.heap.size w w) := Lib.hid (Below.refl _ _)
      go_wp2_with fail
      refine (gmeter_any p (cfR n) s2 _ HG.out).mono ?_
      rintro e wm0 ⟨rfl, rfl⟩
      go_wp2_with fail
      refine (rstands_any p n s2 ks l2 a cap a2' cap2' _ HG.out HL2.out HN.out HK.out HRk2.out HR.out (by omega)).mono ?_
      rintro e wm1 ⟨rfl, hb⟩
      have HG1 := Lib.hid (HG.out.later hb)
      have HT1 : Hid (Below w.heap.size w wm1) := Lib.hid (below_step HB2.out hb)
      have HR1 := Lib.hid (HR.out.later hb)
      have HRk21 := Lib.hid (HRk2.out.later hb)
      clear hb
      go_wp2_with fail
      refine (F.list (cfR n) s2.zs l2 HG1.out.wz HL2.out.ring p s2.m _ HG1.out).mono ?_
      rintro e wm2 ⟨a3, cap3, rfl, hr3, hf3, hb⟩
      have HG2 := Lib.hid (HG1.out.later hb)
      have HT2 : Hid (Below w.heap.size w wm2) := Lib.hid (below_step HT1.out hb)
      have HR2 := Lib.hid (HR1.out.later hb)
      have HRk22 := Lib.hid (HRk21.out.later hb)
      clear hb
      have HR3 := Lib.hid hr3
      clear hr3 hf3
      have HI : Hid (∀ w', Row w' .i64 a3 (ints l2) → Row w' .i64 a2' (ints l2) → Calls Try.prog 11 #[.slice a3 l2.length cap3, .slice a2' l2.length cap2'] w' fun e w'' => e = .returned (.bool true) ∧ Drw w' w'') := Lib.hid (fun w' h1 h2 => by
        have := rcInts_same a3 a2' cap3 cap2' (ints l2) w' h1 h2 (by rw [ints_length]; omega)
        rw [ints_length] at this
        exact this)
      go_wp2_with fail
      refine (HI.out _ HR3.out HR2.out).mono ?_
      rintro e wm3 ⟨rfl, hd⟩
      have HG3 := Lib.hid (HG2.out.drw hd)
      have HT3 : Hid (Below w.heap.size w wm3) := Lib.hid (below_step HT2.out hd.new)
      have HR3 := Lib.hid (HR2.out.drw hd)
      have HRk23 := Lib.hid (HRk22.out.drw hd)
      clear hd
      go_wp2_with fail
      refine (gmeter_any p (cfR n) s2 _ HG3.out).mono ?_
      rintro e wm0 ⟨rfl, rfl⟩
      go_wp2_with fail
      go_roundw
      case rel => exact ⟨k + 1, by omega, by go_num, l2, s2, a2', cap2', rfl, ⟨HG3.out, HL2.out, HN.out, HK.out, HRk23.out, HOk.out, HR3.out, HO2.out, by omega⟩, hl2k, HT3.out⟩
      case measure => simp [intOf]; omega
    · clear hA hbel
      go_wp2_with fail
      refine (begun9_any F _).mono ?_
      rintro e w9 ⟨rfl, hb⟩
      have HB9 := Lib.hid (below_step HBe.out hb)
      clear hb
      go_wp2_with fail
      go_ret
      exact ⟨rfl, HB9.out⟩

theorem ringPlays_any (F : RingFns) (a : Option Addr) (cap : Nat) (ks : List Int) (a2 : Option Addr) (cap2 : Nat) (rs : List (List Fld)) (w : World) (hr : Row w .u8 a ks) (hm : ks.length ≤ maxLen) (hk : ∀ n ∈ ks, (Lit.int .u8 n).wf = true) (hrs : Recs w a2 [.int .u8, .int .i64] rs) (hm2 : rs.length ≤ maxLen) :
    Calls Try.prog 3 #[.slice a ks.length cap, .slice a2 rs.length cap2] w fun e w' => e = .returned (.bool true) ∧ Below w.heap.size w w' := by
  by_cases h : ks.length < 1 ∨ 60 < ks.length ∨ 200 < rs.length
  · exact ringPlays_out F a cap _ a2 cap2 _ w h hm hm2
  · refine ringPlays_few F a cap ks.length ks a2 cap2 rs w (by omega) (by omega) (by omega) hr rfl (Kinds.of (fun x hx => ?_)) hrs
    have := hk x hx
    simp [Lit.wf, IntKind.min, IntKind.max, IntKind.bits, IntKind.signed] at this
    omega

end Go.Proofs.Ytdiegmbaiibndaa.Pk
