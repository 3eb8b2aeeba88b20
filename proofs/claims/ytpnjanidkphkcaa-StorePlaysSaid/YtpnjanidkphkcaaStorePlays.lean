/- The statement StorePlays holds for every input: whatever is got and put, each call tells what the document says, and the meter counts just the accesses; and the chapter's example holds. No condition. -/
import Derived.Test.YtpnjanidkphkcaaRows
import Derived.Test.YtpnjanidkphkcaaStoDo
import Derived.Test.YtpnjanidkphkcaaRecs
import Derived.Deep.RegionWith
import Derived.WalkKit
import Derived.ProofKit
import Derived.OpenShut
import Derived.ChangeOld
import Derived.Carry
import Derived.Lib.SmallJoins
namespace Go.Proofs.Ytpnjanidkphkcaa.storePlays
open Go.ChangeShapes Go.WideShapes Go.ChangeAt Go.RowKit Go.Joins
open Go.Proofs.Ytpnjanidkphkcaa.Pk
set_option linter.unusedVariables false
set_option linter.unusedSimpArgs false

theorem own : ownKnob Try.prog.godebug = none := by kernel_rfl
theorem laidOut : laidOutB Try.prog = true := by kernel_rfl

def DoAny (w : World) (s g r h : Nat) (zs : List Int) (m : Int) (en : Ending) (w' : World) : Prop :=
  ∃ zs' m', zs'.length = zs.length ∧ m ≤ m' ∧ m' ≤ m + 1 ∧ DoPost w s g r h zs' m' en w'
theorem do_any (s g r h : Nat) (zs lz : List Int) (m kind i wd : Int) (a : Option Addr) (cap : Nat) (w : World) (hB : Both w s g r h zs m) (hk : 0 ≤ kind) (h0 : 0 ≤ m) (h1 : m < 1000000) (hn : zs.length ≤ 1000) (hm : lz.length ≤ maxLen)
    (hrow : Row w .u32 a lz) (hout : RowOut (inBoth s g r h) a lz) :
    Calls Try.prog 10 #[.pointer (some ⟨s, 0, none⟩), .pointer (some ⟨r, 0, none⟩), .agg #[.int .u8 kind, .int .i64 i, .int .u32 wd, .slice a lz.length cap]] w (DoAny w s g r h zs m) := by
  have hml : zs.length ≤ maxLen := by unfold maxLen; omega
  have hi : (∃ k : Nat, k < zs.length ∧ i = (k : Int)) ∨ (i < 0 ∨ (zs.length : Int) ≤ i) := by
    by_cases hx : 0 ≤ i ∧ i < (zs.length : Int)
    · exact .inl ⟨i.toNat, by omega, by omega⟩
    · exact .inr (by omega)
  by_cases k0 : kind = 0
  · subst k0
    rcases hi with ⟨k, hk, rfl⟩ | hi
    · exact (do_get_yes s g r h zs lz m wd k a lz.length cap w hB hk h0 h1).mono fun e w' hd => ⟨zs, m + 1, rfl, by omega, by omega, hd⟩
    · exact (do_get_no s g r h zs lz m i wd a lz.length cap w hB hi).mono fun e w' hd => ⟨zs, m, rfl, by omega, by omega, hd⟩
  by_cases k1 : kind = 1
  · subst k1
    rcases hi with ⟨k, hk, rfl⟩ | hi
    · exact (do_put_yes s g r h zs lz m wd k a lz.length cap w hB hk h0 h1).mono fun e w' hd => ⟨zs.set k wd, m + 1, by simp, by omega, by omega, hd⟩
    · exact (do_put_no s g r h zs lz m i wd a lz.length cap w hB hi).mono fun e w' hd => ⟨zs, m, rfl, by omega, by omega, hd⟩
  by_cases k2 : kind = 2
  · subst k2
    rcases hi with ⟨k, hk, rfl⟩ | hi
    · exact (do_peek_yes s g r h zs lz m wd k a lz.length cap w hB hk).mono fun e w' hd => ⟨zs, m, rfl, by omega, by omega, hd⟩
    · exact (do_peek_no s g r h zs lz m i wd a lz.length cap w hB hi).mono fun e w' hd => ⟨zs, m, rfl, by omega, by omega, hd⟩
  by_cases k3 : kind = 3
  · subst k3
    exact (do_words s g r h zs lz m i wd a lz.length cap w hB (by omega)).mono fun e w' hd => ⟨zs, m, rfl, by omega, by omega, hd⟩
  by_cases k4 : kind = 4
  · subst k4
    by_cases hl : lz.length = zs.length
    · exact (do_load_eq s g r h zs lz m i wd a lz.length cap w hB rfl hl.symm hrow hout).mono fun e w' hd => ⟨lz, m, hl, by omega, by omega, hd⟩
    · exact (do_load_ne s g r h zs lz m i wd a lz.length cap w hB hl rfl hm hml).mono fun e w' hd => ⟨zs, m, rfl, by omega, by omega, hd⟩
  exact (do_len s g r h zs lz m kind i wd a lz.length cap w hB (by omega)).mono fun e w' hd => ⟨zs, m, rfl, by omega, by omega, hd⟩

/-- An act that came in. -/
theorem act_of {w : World} {a : Option Addr} {rs : List (List Fld)} (hr : Recs w a [.int .u8, .int .i64, .int .u32, .ints .u32] rs) {k : Nat} (hk : k < rs.length) :
    ∃ (b off : Nat) (kind i wd : Int) (la : Option Addr) (lcap : Nat) (lz : List Int), a = some ⟨b, off, none⟩ ∧ b < w.heap.size ∧ w.cell? ⟨b, off + k * 4, none⟩ = some (.int .u8 kind) ∧ w.cell? ⟨b, off + k * 4 + 1, none⟩ = some (.int .i64 i) ∧
      w.cell? ⟨b, off + k * 4 + 2, none⟩ = some (.int .u32 wd) ∧ w.cell? ⟨b, off + k * 4 + 3, none⟩ = some (.slice la lz.length lcap) ∧ 0 ≤ kind ∧ Row w .u32 la lz ∧ lz.length ≤ maxLen := by
  obtain ⟨h1, b, off, ha, hb, hc⟩ := hr k rs[k] (by simp [hk])
  generalize rs[k] = r at h1 hc
  have hl : r.length = 4 := by have := congrArg List.length h1; simpa using this
  match r, hl with
  | [f0, f1, f2, f3], _ =>
    simp at h1
    obtain ⟨k0, k1, k2, k3⟩ := h1
    have c0 := hc 0 f0 rfl
    have c1 := hc 1 f1 rfl
    have c2 := hc 2 f2 rfl
    have c3 := hc 3 f3 rfl
    cases f0 <;> simp [Fld.kd] at k0
    cases f1 <;> simp [Fld.kd] at k1
    cases f2 <;> simp [Fld.kd] at k2
    cases f3 <;> simp [Fld.kd] at k3
    subst k0 k1 k2 k3
    refine ⟨b, off, _, _, _, _, _, _, ha, hb, by simpa [Fld.val] using c0.1, by simpa [Fld.val] using c1.1, by simpa [Fld.val] using c2.1, by simpa [Fld.val] using c3.1, ?_, c3.2.1, c3.2.2.2⟩
    have := c0.2
    simp [Fld.ok, Lit.wf, IntKind.min, IntKind.max, IntKind.signed, IntKind.bits] at this
    omega

set_option maxRecDepth 100000 in
set_option maxHeartbeats 400000 in
theorem walk_many (n : Int) (a : Option Addr) (cap len : Nat) (w : World) (h : 200 < (len : Int)) (hm : (len : Int) ≤ 9223372036854775807) :
    Calls Try.prog 3 #[.int .u8 n, .slice a len cap] w fun e w' => e = .returned (.bool true) ∧ Below w.heap.size w w' := by
  go_enter Try.func3, Try.ntmps3
  go_wp2_with fail
  refine (begun4_any _).mono ?_
  rintro e w1 ⟨rfl, hb1⟩
  go_wp2_with fail
  go_ret
  exact ⟨rfl, hb1⟩

theorem below_undrew {w w1 : World} (h : Below w.drew.heap.size w.drew w1) : Below w.heap.size w w1 := ⟨h.os, h.tape, h.output, h.size, h.block⟩
/-- What holds at each act's head. -/
def PlayAt (w : World) (s g r h q : Nat) (k : Nat) (wr : World) : Prop :=
  ∃ zs m, Both wr s g r h zs m ∧ zs.length = q ∧ 0 ≤ m ∧ m ≤ k ∧ Below w.heap.size w wr

set_option maxRecDepth 100000 in
set_option maxHeartbeats 2000000 in
theorem walk_few (q : Nat) (a : Option Addr) (cap : Nat) (rs : List (List Fld)) (w : World) (hq : q < 256) (h : (rs.length : Int) ≤ 200) (hr : Recs w a [.int .u8, .int .i64, .int .u32, .ints .u32] rs) :
    Calls Try.prog 3 #[.int .u8 (q : Int), .slice a rs.length cap] w fun e w' => e = .returned (.bool true) ∧ Below w.heap.size w w' := by
  have HR := Lib.hid hr
  have hd200 : decide ((200 : Int) < (rs.length : Int)) = false := by simp; omega
  clear hr
  go_enter Try.func3, Try.ntmps3
  go_wp2_with fail
  refine (new_yes q _ (by omega)).mono ?_
  rintro e w1 ⟨s, g, rfl, hS, hs, hg, hb⟩
  have HS := Lib.hid hS
  have HB := Lib.hid hb
  have Hs := Lib.hid hs
  have Hg := Lib.hid hg
  clear hS hb hs hg
  go_wp2_with fail
  refine (refNew_any q _ (by omega)).mono ?_
  rintro e w2 ⟨r, h', rfl, hS, hs, hg, hb⟩
  have hp : PlayAt w s g r h' q 0 w2 := ⟨List.replicate q 0, 0, ⟨HS.out.later hb, hS, by have := HS.out.head.lt; omega, by have := HS.out.head.lt; omega, by have := HS.out.body.lt; omega, by have := HS.out.body.lt; omega⟩, by simp, by omega, by omega, HB.out.trans (hb.mono HB.out.size)⟩
  have Hr : Hid (w.heap.size ≤ r) := Lib.hid (by have := HB.out.size; omega)
  have Hh : Hid (w.heap.size ≤ h') := Lib.hid (by have := HB.out.size; omega)
  clear hS hs hg hb
  go_wp2_with fail
  go_loopw [31] (fun i wr => ∃ k : Nat, k ≤ rs.length ∧ i = .int .i64 k ∧ PlayAt w s g r h' q k wr) (fun i _ => rs.length - (intOf i).toNat)
  case atStart => exact ⟨0, Nat.zero_le _, rfl, hp⟩
  case round =>
    obtain ⟨k, hk, rfl, zs, m, hB, hzq, hm0, hmk, hbel⟩ := hrel
    have HBo := Lib.hid hB
    have HZ := Lib.hid hzq
    have HBe := Lib.hid hbel
    have HX : Hid (∀ k, inBoth s g r h' k → w.heap.size ≤ k) := Lib.hid (fun k hk => by rcases hk with (rfl | rfl) | (rfl | rfl); exact Hs.out; exact Hg.out; exact Hr.out; exact Hh.out)
    by_cases hlt : k < rs.length
    · obtain ⟨b, off, kind, i, wd, la, lcap, lz, rfl, hb0, x0, x1, x2, x3, hkind, hrow, hlm⟩ := act_of HR.out hlt
      have y0 := (hbel.cell (p := ⟨b, off + k * 4, none⟩) hb0).trans x0
      have y1 := (hbel.cell (p := ⟨b, off + k * 4 + 1, none⟩) hb0).trans x1
      have y2 := (hbel.cell (p := ⟨b, off + k * 4 + 2, none⟩) hb0).trans x2
      have y3 := (hbel.cell (p := ⟨b, off + k * 4 + 3, none⟩) hb0).trans x3
      have HRow := Lib.hid (hrow.below hbel (Nat.le_refl _))
      have HOut := Lib.hid (hrow.out HX.out)
      clear hB hzq hbel hrow x0 x1 x2 x3 hp
      have HLt := Lib.hid fun k (hk : inBoth s g r h' k) => HBo.out.lt hk
      clear hb0
      go_wp2_with fail
      go_region_with (first | (go_at_call 10; refine (do_any s g r h' zs lz m kind i wd la lcap _ (HBo.out.alloc _).drew hkind hm0 (by omega) (by have := HZ.out; omega) hlm ((HRow.out.alloc _).drw (Drw.refl _ |>.step 1)) HOut.out).mono ?_; rintro e w3 ⟨zs', m', hl', hm1, hm2, rfl, hB3, hT3'⟩; have hT3 := hT3'.undrew; have z0 : w3.cell? ⟨wr.heap.size, 0, none⟩ = some (.int .u8 kind) := (box_touch HLt.out hT3 0).trans (by go_simp); have z1 : w3.cell? ⟨wr.heap.size, 1, none⟩ = some (.int .i64 i) := (box_touch HLt.out hT3 1).trans (by go_simp); have z2 : w3.cell? ⟨wr.heap.size, 2, none⟩ = some (.int .u32 wd) := (box_touch HLt.out hT3 2).trans (by go_simp); have z3 : w3.cell? ⟨wr.heap.size, 3, none⟩ = some (.slice la lz.length lcap) := (box_touch HLt.out hT3 3).trans (by go_simp); have zm : w3.cell? ⟨r, 1, none⟩ = some (.int .u64 m') := hB3.rf.meter; have HB3 := Lib.hid hB3; have HT3 := Lib.hid hT3; have HL3 := Lib.hid hl'; clear hB3 hT3 hT3' hl') | (go_at_call 11; refine (meter_any s g zs' m' _ HB3.out.st).mono ?_; rintro e w4 ⟨rfl, rfl⟩))
      all_goals
        go_wp2_with fail
        go_roundw
        case rel => exact ⟨k + 1, by omega, by go_num, zs', m', HB3.out, by rw [HL3.out]; exact HZ.out, by omega, by omega, (HBe.out.alloc HBe.out.size _).trans (HT3.out.below (B := w.heap.size) (fun k hk => HX.out k hk) (by have := HBe.out.size; simp; omega))⟩
        case measure => simp [intOf]; omega
    · have cs := hB.rf.slice
      clear hB hzq hbel hp
      go_wp2_with fail
      go_region_held3 (fun w' => w'.cell? ⟨r, 0, none⟩ = some (.slice (some ⟨h', 0, none⟩) zs.length zs.length)) (first | assumption | go_keep)
        (first | (go_at_call 7; refine (begun4_any _).mono ?_; rintro e w3 ⟨rfl, hb3⟩; have HB3 := Lib.hid (HBo.out.drew.later hb3); have cs3 := HB3.out.rf.slice; have HBe3 := Lib.hid (HBe.out.trans ((below_undrew hb3).mono HBe.out.size)); clear hb3) | (go_at_call 13; refine (words_any s g zs m _ HB3.out.st (by have := HZ.out; omega)).mono ?_; rintro e w4 ⟨u, rfl, hu, hu2, hb4⟩; have HB4 := Lib.hid (HB3.out.later hb4); have cs4 := HB4.out.rf.slice; have HU := Lib.hid (blk_row hu); have HBe4 := Lib.hid (HBe3.out.trans (hb4.mono HBe3.out.size)); clear hu hu2 hb4) | (go_at_call 12; refine (same_yes zs _ _ zs.length _ _ _ rfl HU.out HB4.out.rf.row (by unfold maxLen; have := HZ.out; omega)).mono ?_; rintro e w5 ⟨rfl, hd⟩; have cs5 := (HB4.out.drw hd).rf.slice; have HBe5 := Lib.hid (HBe4.out.trans (hd.below w.heap.size)); clear hd))
      go_wp2_with fail
      go_ret
      exact ⟨rfl, HBe5.out⟩

theorem walk (n : Int) (a : Option Addr) (cap : Nat) (rs : List (List Fld)) (w : World) (hn : (Lit.int .u8 n).wf = true) (hr : Recs w a [.int .u8, .int .i64, .int .u32, .ints .u32] rs) (hm : rs.length ≤ maxLen) :
    Calls Try.prog 3 #[.int .u8 n, .slice a rs.length cap] w fun e w' => e = .returned (.bool true) ∧ Below w.heap.size w w' := by
  unfold maxLen at hm
  have hn' : 0 ≤ n ∧ n < 256 := by simp [Lit.wf, IntKind.min, IntKind.max, IntKind.bits, IntKind.signed] at hn; omega
  obtain ⟨q, rfl⟩ := Int.eq_ofNat_of_zero_le hn'.1
  by_cases h : 200 < (rs.length : Int)
  · exact walk_many _ a cap _ w h (by omega)
  · exact walk_few q a cap rs w (by omega) (by omega) hr

/-! ### The row -/
set_option maxRecDepth 100000 in
theorem lifted (os : Os) (started : os.Started) (H : Type) (enc : TypeId × Value → H) :
    ReturnsInHanded {} Try.checked os 3 .any (Rows.storePlaysSpec.pre6 enc Try.prog Try.f3 Rows.storePlaysRow.domain false) (Rows.storePlaysSpec.post enc Try.prog Try.f3 false true false false) := by
  refine returnsInHanded_of_change (C := Try.checked) own started (by kernel_rfl) Try.func3
    (ChangeSpec.witness6 (enc := enc) (C := Try.checked) false ⟨#[], #[.int .u8 0, .slice none 0 0], []⟩ 8 (by kernel_rfl) (by kernel_rfl) (by kernel_rfl) (by kernel_rfl)) ?_
  intro W base args ds gs before hval0 hW hcnd _
  have hval : ∀ (j : Nat) t v, Try.f3.params[j]? = some t → args[j]? = some v → Value.okWide Try.prog W .any base t v := hval0
  have hW' := hW
  obtain ⟨p, q, hA0, hV, rfl, hfz, hnd⟩ := hW
  have hA : DataW.TrodAll enc Try.prog W 0 (fun _ => true) true Try.f3.params.toList args.toList ds p := hA0
  rw [Try.params3] at hA hval
  obtain ⟨v0, vs0, d0, ds0, p0, q0, hargs, rfl, rfl, h0, r0⟩ := trodAll_cons hA
  obtain ⟨v1, vs1, d1, ds1, p1, q1, rfl, rfl, rfl, h1, r1⟩ := trodAll_cons r0
  obtain ⟨rfl, rfl, rfl⟩ := trodAll_nil r1
  obtain rfl : args = #[v0, v1] := by cases args; simp_all
  obtain ⟨rfl, rfl⟩ := trodVars_none hV
  have k0 := h0
  have lt0 : ∀ x ∈ p0, x.block < W.heap.size := by obtain ⟨m, hm⟩ := k0; exact DataW.trod_lt m _ _ _ hm
  obtain ⟨a0, rfl, hd0, hp0, w0⟩ := open_int Try.underlying5 (hval 0 5 v0 rfl rfl) h0
  have k1 := h1
  have lt1 : ∀ x ∈ p1, x.block < W.heap.size := by obtain ⟨m, hm⟩ := k1; exact DataW.trod_lt m _ _ _ hm
  obtain ⟨a1, len1, cap1, rfl⟩ := okWide_slice Try.underlying22 (hval 1 22 v1 rfl rfl)
  obtain ⟨z1, hl1, ro1, m1⟩ : ∃ rs : List (List Fld), len1 = rs.length ∧ Recs W a1 [.int .u8, .int .i64, .int .u32, .ints .u32] rs ∧ len1 ≤ maxLen := by
    obtain ⟨fuel, hf⟩ := h1
    rcases open_recs Try.underlying22 Try.underlying33 (by kernel_rfl) (by kernel_rfl) [.int .u8, .int .i64, .int .u32, .ints .u32] (by decide) ⟨Try.underlying5, Try.underlying3, Try.underlying30, ⟨_, Try.underlying31, Try.underlying30, by kernel_rfl⟩, trivial⟩ hf with hcs | ⟨x, l, c, rs, hcs, hm, hl, hr⟩
    · simp [Value.cells] at hcs
      obtain ⟨rfl, rfl, rfl⟩ := hcs
      exact ⟨[], rfl, Recs.nil _ _ _, Nat.zero_le _⟩
    · simp [Value.cells] at hcs
      obtain ⟨rfl, rfl, rfl⟩ := hcs
      exact ⟨rs, hl.symm, hr, hm⟩
  subst hl1
  clear hA0 hval0
  refine (walk a0 a1 cap1 z1 W w0 ro1 m1).mono fun e W' ⟨he, bel⟩ => ?_
  subst he
  exact ⟨_, rfl, _, _, _, [], _, [], hW', trodAll_mk1 (shut_bool Try.underlying4 _), (trodAll_cons_mk (Below.trod laidOut (by kernel_rfl) (of_decide_eq_true (by kernel_rfl)) k0 bel lt0) (trodAll_cons_mk (Below.trod laidOut (by kernel_rfl) (of_decide_eq_true (by kernel_rfl)) k1 bel lt1) trodAll_mk0)), rfl, bel.frame _, fun h => by cases h⟩

theorem over : Rows.storePlaysRow.holds Try.pinned (OpenSpec.ofChange Rows.storePlaysSpec) :=
  OpenClaim.holds_of_wide 3 Try.f3 rfl rfl rfl rfl rfl rfl rfl ⟨rfl, rfl, rfl, rfl, rfl⟩ rfl rfl rfl rfl rfl (by kernel_rfl) Try.func3 (by kernel_rfl)
    (of_decide_eq_true (by kernel_rfl)) (by unfold Func.isWrapper; first | (rw [if_pos (by decide +kernel)]; kernel_rfl) | (rw [if_neg (by decide +kernel)]; exact ⟨rfl, rfl⟩))
    (fun os started H enc _ => lifted os started H enc)

theorem proved : Rows.StorePlaysSaid := over
#print axioms proved
end Go.Proofs.Ytpnjanidkphkcaa.storePlays
