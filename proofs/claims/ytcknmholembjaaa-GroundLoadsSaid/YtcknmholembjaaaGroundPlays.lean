/- GroundPlays holds: whatever is done to a ground, it is told as the document's ground tells it, and all words and the meter are the document's. -/
import Derived.Test.YtcknmholembjaaaRows
import Derived.Test.YtcknmholembjaaaGroDo2
import Derived.Test.YtcknmholembjaaaRecs
import Derived.Deep.RegionWith
import Derived.WalkKit
import Derived.ProofKit
import Derived.OpenShut
import Derived.ChangeOld
import Derived.Carry
import Derived.Lib.SmallJoins
namespace Go.Proofs.Ytcknmholembjaaa.groundPlays
open Go.ChangeShapes Go.WideShapes Go.ChangeAt Go.RowKit Go.Joins
open Go.Proofs.Ytcknmholembjaaa.Pk
set_option linter.unusedVariables false
set_option linter.unusedSimpArgs false

theorem own : ownKnob Try.prog.godebug = none := by kernel_rfl
theorem laidOut : laidOutB Try.prog = true := by kernel_rfl

/-- A configuration that may be, as counts. -/
theorem cf_of {n v r k : Int} (h : mayB n v r k = true) : ∃ c : Cf, c.May ∧ n = (c.N : Int) ∧ v = (c.W : Int) ∧ r = (c.R : Int) ∧ k = (c.K : Int) := by
  have hm := may_of h
  have h1 := hm.n0; have h2 := hm.w0; have h3 := hm.r0; have h4 := hm.k0
  obtain ⟨n', rfl⟩ := Int.eq_ofNat_of_zero_le (show 0 ≤ n by omega)
  obtain ⟨v', rfl⟩ := Int.eq_ofNat_of_zero_le (show 0 ≤ v by omega)
  obtain ⟨r', rfl⟩ := Int.eq_ofNat_of_zero_le (show 0 ≤ r by omega)
  obtain ⟨k', rfl⟩ := Int.eq_ofNat_of_zero_le (show 0 ≤ k by omega)
  exact ⟨⟨n', v', r', k'⟩, hm, rfl, rfl, rfl, rfl⟩
theorem act_of {w : World} {a : Option Addr} {rs : List (List Fld)} (hr : Recs w a [.int .u8, .int .i64, .int .i64, .int .i64] rs) {k : Nat} (hk : k < rs.length) :
    ∃ (b off : Nat) (kind i v x : Int), a = some ⟨b, off, none⟩ ∧ b < w.heap.size ∧ w.cell? ⟨b, off + k * 4, none⟩ = some (.int .u8 kind) ∧ w.cell? ⟨b, off + k * 4 + 1, none⟩ = some (.int .i64 i) ∧
      w.cell? ⟨b, off + k * 4 + 2, none⟩ = some (.int .i64 v) ∧ w.cell? ⟨b, off + k * 4 + 3, none⟩ = some (.int .i64 x) ∧ 0 ≤ kind := by
  obtain ⟨h1, b, off, ha, hb, hc⟩ := hr k rs[k] (by simp [hk])
  generalize rs[k] = r at h1 hc
  have hl : r.length = 4 := by have := congrArg List.length h1; simpa using this
  match r, hl with
  | [f0, f1, f2, f3], _ =>
    simp at h1
    obtain ⟨k0, k1, k2, k3⟩ := h1
    have c0 := hc 0 f0 rfl
    have c1 := hc 1 f1 rfl
    have c2 := hc 2 f2 rfl
    have c3 := hc 3 f3 rfl
    cases f0 <;> simp [Fld.kd] at k0
    cases f1 <;> simp [Fld.kd] at k1
    cases f2 <;> simp [Fld.kd] at k2
    cases f3 <;> simp [Fld.kd] at k3
    subst k0 k1 k2 k3
    refine ⟨b, off, _, _, _, _, ha, hb, by simpa [Fld.val] using c0.1, by simpa [Fld.val] using c1.1, by simpa [Fld.val] using c2.1, by simpa [Fld.val] using c3.1, ?_⟩
    have := c0.2
    simp [Fld.ok, Lit.wf, IntKind.min, IntKind.max, IntKind.signed, IntKind.bits] at this
    omega

set_option maxRecDepth 100000 in
set_option maxHeartbeats 400000 in
theorem walk_no (n v r k : Int) (a : Option Addr) (cap len : Nat) (w : World) (h : mayB n v r k = false) :
    Calls Try.prog 3 #[.agg #[.int .i64 n, .int .i64 v, .int .i64 r, .int .i64 k], .slice a len cap] w fun e w' => e = .returned (.bool true) ∧ Below w.heap.size w w' := by
  have HM := Lib.hid h
  clear h
  go_enter Try.func3, Try.ntmps3
  go_wp2_with fail
  refine (gnew_no n v r k _ HM.out).mono ?_
  rintro e w1 ⟨rfl, hb⟩
  have hBk := (Blk.new w #[.int .i64 n, .int .i64 v, .int .i64 r, .int .i64 k] 23).later hb
  have c0 := hBk.cell 0 rfl
  have c1 := hBk.cell 1 rfl
  have c2 := hBk.cell 2 rfl
  have c3 := hBk.cell 3 rfl
  have HB := Lib.hid (below_step (below_new w _) hb)
  have hz : w.heap.size < w1.heap.size := hBk.lt
  clear hb hBk
  go_wp2_with fail
  refine (refMay_no n v r k _ HM.out).mono ?_
  rintro e w2 ⟨rfl, hb⟩
  have HB2 := Lib.hid (below_step HB.out hb)
  clear hb
  go_wp2_with fail
  refine (begun5_any _).mono ?_
  rintro e w3 ⟨rfl, hb⟩
  have HB3 := Lib.hid (below_step HB2.out hb)
  clear hb
  go_wp2_with fail
  go_ret
  exact ⟨rfl, HB3.out⟩

/-- What holds at each act's head. -/
def PlayAt (w : World) (p q : Pl) (c : Cf) (wr : World) : Prop := ∃ s, Duo wr p q c s ∧ Below w.heap.size w wr

set_option maxRecDepth 100000 in
set_option maxHeartbeats 400000 in
theorem walk_big (c : Cf) (a : Option Addr) (cap len : Nat) (w : World) (h : c.May) (hb : 200 < (len : Int) ∨ littleB c.N c.W c.R = false) (hm : len ≤ maxLen) :
    Calls Try.prog 3 #[c.val, .slice a len cap] w fun e w' => e = .returned (.bool true) ∧ Below w.heap.size w w' := by
  unfold maxLen at hm
  have HM := Lib.hid h
  have HL := Lib.hid hb
  have hg := gnew_yes c (w.alloc (.cells #[.int .i64 (c.N : Int), .int .i64 (c.W : Int), .int .i64 (c.R : Int), .int .i64 (c.K : Int)] 23)) h
  unfold Cf.val at hg ⊢
  have HGN := Lib.hid hg
  clear h hb hg
  go_enter Try.func3, Try.ntmps3
  go_wp2_with fail
  refine HGN.out.mono ?_
  rintro e w1 ⟨p, rfl, hG, hp, hb⟩
  have hBk := (Blk.new w #[.int .i64 (c.N : Int), .int .i64 (c.W : Int), .int .i64 (c.R : Int), .int .i64 (c.K : Int)] 23).later hb
  have c0 := hBk.cell 0 rfl
  have c1 := hBk.cell 1 rfl
  have c2 := hBk.cell 2 rfl
  have c3 := hBk.cell 3 rfl
  have HBk := Lib.hid hBk
  have HB := Lib.hid (below_step (below_new w _) hb)
  clear hb hBk hG hp
  go_wp2_with fail
  refine (refMay_yes _ _ _ _ _ HM.out).mono ?_
  rintro e w2 ⟨rfl, hb⟩
  have hBk := HBk.out.later hb
  have d0 := hBk.cell 0 rfl
  have d1 := hBk.cell 1 rfl
  have d2 := hBk.cell 2 rfl
  have d3 := hBk.cell 3 rfl
  have HB2 := Lib.hid (below_step HB.out hb)
  clear hb hBk
  by_cases hl : 200 < (len : Int)
  · have hd200 : decide ((200 : Int) < (len : Int)) = true := by simp; omega
    go_wp2_with fail
    refine (begun5_any _).mono ?_
    rintro e w3 ⟨rfl, hb⟩
    have HB3 := Lib.hid (below_step HB2.out hb)
    clear hb
    go_wp2_with fail
    go_ret
    exact ⟨rfl, HB3.out⟩
  · have hd200 : decide ((200 : Int) < (len : Int)) = false := by simp; omega
    go_wp2_with fail
    refine (asB (little_any _ _ _ _ _) (HL.out.resolve_left (by omega))).mono ?_
    rintro e w3 ⟨rfl, hb⟩
    have HB3 := Lib.hid (below_step HB2.out hb)
    clear hb
    go_wp2_with fail
    refine (begun5_any _).mono ?_
    rintro e w4 ⟨rfl, hb⟩
    have HB4 := Lib.hid (below_step HB3.out hb)
    clear hb
    go_wp2_with fail
    go_ret
    exact ⟨rfl, HB4.out⟩

set_option maxRecDepth 100000 in
set_option maxHeartbeats 2000000 in
theorem walk_few (c : Cf) (a : Option Addr) (cap : Nat) (rs : List (List Fld)) (w : World) (h : c.May) (hb : littleB c.N c.W c.R = true) (hn : (rs.length : Int) ≤ 200) (hr : Recs w a [.int .u8, .int .i64, .int .i64, .int .i64] rs) :
    Calls Try.prog 3 #[c.val, .slice a rs.length cap] w fun e w' => e = .returned (.bool true) ∧ Below w.heap.size w w' := by
  have HM := Lib.hid h
  have HL := Lib.hid hb
  have HR := Lib.hid hr
  have hg := gnew_yes c (w.alloc (.cells #[.int .i64 (c.N : Int), .int .i64 (c.W : Int), .int .i64 (c.R : Int), .int .i64 (c.K : Int)] 23)) h
  have hd200 : decide ((200 : Int) < (rs.length : Int)) = false := by simp; omega
  have hrn := fun w1 => rnew_any c w1 h
  have hgc := fun p s w1 hG => gconf_any p c s w1 hG
  unfold Cf.val at hg hrn hgc ⊢
  have HGN := Lib.hid hg
  have HRN := Lib.hid hrn
  have HGC := Lib.hid hgc
  clear h hb hg hr hrn hgc
  go_enter Try.func3, Try.ntmps3
  go_wp2_with fail
  refine HGN.out.mono ?_
  rintro e w1 ⟨p, rfl, hG, hp, hb⟩
  have hBk := (Blk.new w #[.int .i64 (c.N : Int), .int .i64 (c.W : Int), .int .i64 (c.R : Int), .int .i64 (c.K : Int)] 23).later hb
  have c0 := hBk.cell 0 rfl
  have c1 := hBk.cell 1 rfl
  have c2 := hBk.cell 2 rfl
  have c3 := hBk.cell 3 rfl
  have HG1 := Lib.hid hG
  have HP := Lib.hid (fun k hk => Nat.le_trans (below_new w _).size (hp k hk))
  have HB := Lib.hid (below_step (below_new w _) hb)
  have HBk := Lib.hid hBk
  clear hb hBk hG hp
  go_wp2_with fail
  refine (refMay_yes _ _ _ _ _ HM.out).mono ?_
  rintro e w2 ⟨rfl, hb⟩
  have HG2 := Lib.hid (HG1.out.later hb)
  have hBk := HBk.out.later hb
  have d0 := hBk.cell 0 rfl
  have d1 := hBk.cell 1 rfl
  have d2 := hBk.cell 2 rfl
  have d3 := hBk.cell 3 rfl
  have HBk2 := Lib.hid hBk
  have HB2 := Lib.hid (below_step HB.out hb)
  clear hb hBk c0 c1 c2 c3
  go_wp2_with fail
  refine (asB (little_any _ _ _ _ _) HL.out).mono ?_
  rintro e w3 ⟨rfl, hb⟩
  have HG3 := Lib.hid (HG2.out.later hb)
  have hBk := HBk2.out.later hb
  have e0 := hBk.cell 0 rfl
  have e1 := hBk.cell 1 rfl
  have e2 := hBk.cell 2 rfl
  have e3 := hBk.cell 3 rfl
  have HBk3 := Lib.hid hBk
  have HB3 := Lib.hid (below_step HB2.out hb)
  clear hb hBk d0 d1 d2 d3
  go_wp2_with fail
  go_region_held3 (fun w' => w'.cell? ⟨w.heap.size, 0, none⟩ = some (.int .i64 (c.N : Int)) ∧ w'.cell? ⟨w.heap.size, 1, none⟩ = some (.int .i64 (c.W : Int)) ∧ w'.cell? ⟨w.heap.size, 2, none⟩ = some (.int .i64 (c.R : Int)) ∧ w'.cell? ⟨w.heap.size, 3, none⟩ = some (.int .i64 (c.K : Int))) (first | exact ⟨f0, f1, f2, f3⟩ | exact ⟨e0, e1, e2, e3⟩)
    (first | (go_at_call 11; refine (HGC.out p _ _ HG3.out.drew).mono ?_; rintro e w4 ⟨rfl, hb⟩; have HG4 := Lib.hid (HG3.out.drew.later hb); have hBk := HBk3.out.drew.later hb; have f0 := hBk.cell 0 rfl; have f1 := hBk.cell 1 rfl; have f2 := hBk.cell 2 rfl; have f3 := hBk.cell 3 rfl; have HB4 := Lib.hid (below_step HB3.out (below_undrew' hb)); clear hb hBk))
  go_wp2_with fail
  refine (HRN.out _).mono ?_
  rintro e w5 ⟨q, rfl, hR, hq, hb⟩
  have hp5 : PlayAt w p q c w5 := ⟨_, ⟨HG4.out.later hb, hR, fun k hk hx => by
    have h1 := hq k hx
    have h2 := HG4.out
    rcases hk with rfl | rfl | rfl
    · have := h2.head.lt; omega
    · have := h2.st.head.lt; omega
    · have := h2.st.body.lt; omega⟩, below_step HB4.out hb⟩
  have HQ := Lib.hid (fun k hk => Nat.le_trans HB4.out.size (hq k hk))
  clear hR hq hb e0 e1 e2 e3 f0 f1 f2 f3
  go_wp2_with fail
  go_loopw [52] (fun i wr => ∃ k : Nat, k ≤ rs.length ∧ i = .int .i64 k ∧ PlayAt w p q c wr) (fun i _ => rs.length - (intOf i).toNat)
  case atStart => exact ⟨0, Nat.zero_le _, rfl, hp5⟩
  case round =>
    obtain ⟨k, hk, rfl, s, hD, hbel⟩ := hrel
    have HD := Lib.hid hD
    have HBe := Lib.hid hbel
    have HX : Hid (∀ k, (inG p k ∨ inG q k) → w.heap.size ≤ k) := Lib.hid (fun k hk => hk.elim (fun h => HP.out k (.inr h)) (fun h => HQ.out k (.inr h)))
    by_cases hlt : k < rs.length
    · obtain ⟨b, off, kind, i, v, x, rfl, hb0, x0, x1, x2, x3, hkind⟩ := act_of HR.out hlt
      have y0 := (hbel.cell (p := ⟨b, off + k * 4, none⟩) hb0).trans x0
      have y1 := (hbel.cell (p := ⟨b, off + k * 4 + 1, none⟩) hb0).trans x1
      have y2 := (hbel.cell (p := ⟨b, off + k * 4 + 2, none⟩) hb0).trans x2
      have y3 := (hbel.cell (p := ⟨b, off + k * 4 + 3, none⟩) hb0).trans x3
      have HK := Lib.hid hkind
      clear hD hbel x0 x1 x2 x3 hp5 hb0 hkind
      go_wp2_with fail
      go_region_with (first | (go_at_call 13; refine (doAny p q c s kind i v x _ (HD.out.alloc _).drew HK.out).mono ?_; rintro e w6 ⟨rfl, hD6, hT6'⟩; have hT6 := hT6'.undrew; have hBk := ((Blk.new wr (boxC kind i v x) 35).drew).touch hT6' (HD.out.fresh); have z0 := hBk.cell 0 rfl; have z1 := hBk.cell 1 rfl; have z2 := hBk.cell 2 rfl; have z3 := hBk.cell 3 rfl; have zp : w6.cell? ⟨q.a, 4, none⟩ = some (.pointer (some ⟨q.s, 0, none⟩)) := hD6.rf.ptr; have zm : w6.cell? ⟨q.s, 1, none⟩ = some (.int .u64 (u64m (actS c s kind i v x).m)) := hD6.rf.st.meter; have HD6 := Lib.hid hD6; have HT6 := Lib.hid hT6; clear hD6 hT6 hT6' hBk) | (go_at_call 14; refine (gmeter_any p c _ _ HD6.out.gd).mono ?_; rintro e w7 ⟨rfl, rfl⟩))
      all_goals
        go_wp2_with fail
        go_roundw
        case rel => exact ⟨k + 1, by omega, by go_num, _, HD6.out, (HBe.out.alloc HBe.out.size _).trans (HT6.out.below (B := w.heap.size) (fun k hk => HX.out k hk) (by have := HBe.out.size; simp; omega))⟩
        case measure => simp [intOf]; omega
    · have cq := hD.rf.ptr
      have cs := hD.rf.st.slice
      have hlen : s.zs.length ≤ maxLen := by rw [hD.rf.len]; unfold maxLen; have := hD.rf.may.size; omega
      have HLn := Lib.hid hlen
      clear hD hbel hp5 hlen
      go_wp2_with fail
      go_region_held3 (fun w' => w'.cell? ⟨q.a, 4, none⟩ = some (.pointer (some ⟨q.s, 0, none⟩)) ∧ w'.cell? ⟨q.s, 0, none⟩ = some (.slice (some ⟨q.g, 0, none⟩) s.zs.length s.zs.length)) (first | exact ⟨HD5.out.rf.ptr, HD5.out.rf.st.slice⟩ | exact ⟨HD4.out.rf.ptr, HD4.out.rf.st.slice⟩ | exact ⟨HD3.out.rf.ptr, HD3.out.rf.st.slice⟩ | exact ⟨HD.out.drew.rf.ptr, HD.out.drew.rf.st.slice⟩ | exact ⟨HD.out.rf.ptr, HD.out.rf.st.slice⟩)
        (first | (go_at_call 9; refine (begun5_any _).mono ?_; rintro e w3 ⟨rfl, hb3⟩; have HD3 := Lib.hid (HD.out.drew.later hb3); have HBe3 := Lib.hid (below_step HBe.out (below_undrew' hb3)); clear hb3) | (go_at_call 16; refine (gwords_any p c s _ HD3.out.gd).mono ?_; rintro e w4 ⟨u, rfl, hu, hu2, hb4⟩; have HD4 := Lib.hid (HD3.out.later hb4); have HU := Lib.hid (blk_row' hu); have HBe4 := Lib.hid (below_step HBe3.out hb4); clear hu hu2 hb4) | (go_at_call 15; refine (same_yes s.zs _ _ s.zs.length _ _ _ rfl HU.out HD4.out.rf.st.row HLn.out).mono ?_; rintro e w5 ⟨rfl, hd⟩; have HD5 := Lib.hid (HD4.out.later hd.new); have HBe5 := Lib.hid (HBe4.out.trans (hd.below w.heap.size)); clear hd))
      go_wp2_with fail
      go_ret
      exact ⟨rfl, HBe5.out⟩

theorem walk (n v r k : Int) (a : Option Addr) (cap : Nat) (rs : List (List Fld)) (w : World) (hn : (Lit.int .i64 n).wf = true) (hv : (Lit.int .i64 v).wf = true) (hr : (Lit.int .i64 r).wf = true) (hk : (Lit.int .i64 k).wf = true) (hrs : Recs w a [.int .u8, .int .i64, .int .i64, .int .i64] rs) (hm : rs.length ≤ maxLen) :
    Calls Try.prog 3 #[.agg #[.int .i64 n, .int .i64 v, .int .i64 r, .int .i64 k], .slice a rs.length cap] w fun e w' => e = .returned (.bool true) ∧ Below w.heap.size w w' := by
  cases h : mayB n v r k with
  | false => exact walk_no n v r k a cap _ w h
  | true =>
    obtain ⟨c, hc, rfl, rfl, rfl, rfl⟩ := cf_of h
    by_cases hl : 200 < (rs.length : Int)
    · exact walk_big c a cap _ w hc (.inl hl) hm
    · cases hb : littleB c.N c.W c.R with
      | false => exact walk_big c a cap _ w hc (.inr hb) hm
      | true => exact walk_few c a cap rs w hc hb (by omega) hrs

/-! ### The row -/
set_option maxRecDepth 100000 in
theorem lifted (os : Os) (started : os.Started) (H : Type) (enc : TypeId × Value → H) :
    ReturnsInHanded {} Try.checked os 3 .any (Rows.groundPlaysSpec.pre6 enc Try.prog Try.f3 Rows.groundPlaysRow.domain false) (Rows.groundPlaysSpec.post enc Try.prog Try.f3 false true false false) := by
  refine returnsInHanded_of_change (C := Try.checked) own started (by kernel_rfl) Try.func3
    (ChangeSpec.witness6 (enc := enc) (C := Try.checked) false ⟨#[], #[.agg #[.int .i64 0, .int .i64 0, .int .i64 0, .int .i64 0], .slice none 0 0], []⟩ 8 (by kernel_rfl) (by kernel_rfl) (by kernel_rfl) (by kernel_rfl)) ?_
  intro W base args ds gs before hval0 hW hcnd _
  have hval : ∀ (j : Nat) t v, Try.f3.params[j]? = some t → args[j]? = some v → Value.okWide Try.prog W .any base t v := hval0
  have hW' := hW
  obtain ⟨p, q, hA0, hV, rfl, hfz, hnd⟩ := hW
  have hA : DataW.TrodAll enc Try.prog W 0 (fun _ => true) true Try.f3.params.toList args.toList ds p := hA0
  rw [Try.params3] at hA hval
  obtain ⟨v0, vs0, d0, ds0, p0, q0, hargs, rfl, rfl, h0, r0⟩ := trodAll_cons hA
  obtain ⟨v1, vs1, d1, ds1, p1, q1, rfl, rfl, rfl, h1, r1⟩ := trodAll_cons r0
  obtain ⟨rfl, rfl, rfl⟩ := trodAll_nil r1
  obtain rfl : args = #[v0, v1] := by cases args; simp_all
  obtain ⟨rfl, rfl⟩ := trodVars_none hV
  have k0 := h0
  have lt0 : ∀ x ∈ p0, x.block < W.heap.size := by obtain ⟨m, hm⟩ := k0; exact DataW.trod_lt m _ _ _ hm
  obtain ⟨c00, c01, c02, c03, y00, y01, y02, y03, m0, rfl, hd0, hp0, hy00, hy01, hy02, hy03⟩ := open_agg4 Try.underlying23 (by kernel_rfl) (by kernel_rfl) (hval 0 23 v0 rfl rfl) h0
  obtain ⟨a00, e00, hdd00, w00⟩ := DataW.trod_int Try.underlying3 hy00
  obtain ⟨a01, e01, hdd01, w01⟩ := DataW.trod_int Try.underlying3 hy01
  obtain ⟨a02, e02, hdd02, w02⟩ := DataW.trod_int Try.underlying3 hy02
  obtain ⟨a03, e03, hdd03, w03⟩ := DataW.trod_int Try.underlying3 hy03
  simp at e00 e01 e02 e03
  subst e00 e01 e02 e03
  have k1 := h1
  have lt1 : ∀ x ∈ p1, x.block < W.heap.size := by obtain ⟨m, hm⟩ := k1; exact DataW.trod_lt m _ _ _ hm
  obtain ⟨a1, len1, cap1, rfl⟩ := okWide_slice Try.underlying24 (hval 1 24 v1 rfl rfl)
  obtain ⟨z1, hl1, ro1, m1⟩ : ∃ rs : List (List Fld), len1 = rs.length ∧ Recs W a1 [.int .u8, .int .i64, .int .i64, .int .i64] rs ∧ len1 ≤ maxLen := by
    obtain ⟨fuel, hf⟩ := h1
    rcases open_recs Try.underlying24 Try.underlying35 (by kernel_rfl) (by kernel_rfl) [.int .u8, .int .i64, .int .i64, .int .i64] (by decide) ⟨Try.underlying5, Try.underlying3, Try.underlying3, Try.underlying3, trivial⟩ hf with hcs | ⟨x, l, c, rs, hcs, hm, hl, hr⟩
    · simp [Value.cells] at hcs
      obtain ⟨rfl, rfl, rfl⟩ := hcs
      exact ⟨[], rfl, Recs.nil _ _ _, Nat.zero_le _⟩
    · simp [Value.cells] at hcs
      obtain ⟨rfl, rfl, rfl⟩ := hcs
      exact ⟨rs, hl.symm, hr, hm⟩
  subst hl1
  clear hA0 hval0
  refine (walk a00 a01 a02 a03 a1 cap1 z1 W w00 w01 w02 w03 ro1 m1).mono fun e W' ⟨he, bel⟩ => ?_
  subst he
  exact ⟨_, rfl, _, _, _, [], _, [], hW', trodAll_mk1 (shut_bool Try.underlying4 _), (trodAll_cons_mk (Below.trod laidOut (by kernel_rfl) (of_decide_eq_true (by kernel_rfl)) k0 bel lt0) (trodAll_cons_mk (Below.trod laidOut (by kernel_rfl) (of_decide_eq_true (by kernel_rfl)) k1 bel lt1) trodAll_mk0)), rfl, bel.frame _, fun h => by cases h⟩

theorem over : Rows.groundPlaysRow.holds Try.pinned (OpenSpec.ofChange Rows.groundPlaysSpec) :=
  OpenClaim.holds_of_wide 3 Try.f3 rfl rfl rfl rfl rfl rfl rfl ⟨rfl, rfl, rfl, rfl, rfl⟩ rfl rfl rfl rfl rfl (by kernel_rfl) Try.func3 (by kernel_rfl)
    (of_decide_eq_true (by kernel_rfl)) (by unfold Func.isWrapper; first | (rw [if_pos (by decide +kernel)]; kernel_rfl) | (rw [if_neg (by decide +kernel)]; exact ⟨rfl, rfl⟩))
    (fun os started H enc _ => lifted os started H enc)

theorem proved : Rows.GroundPlaysSaid := over
#print axioms proved
end Go.Proofs.Ytcknmholembjaaa.groundPlays
