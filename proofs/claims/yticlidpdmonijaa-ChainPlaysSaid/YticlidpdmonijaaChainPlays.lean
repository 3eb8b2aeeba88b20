/- ChainPlays holds: whatever is put and taken, each call tells what the document says, and registers and links stand just so; and the chapter's example holds. No condition. -/
import Derived.Test.YticlidpdmonijaaRows
import Derived.Test.YticlidpdmonijaaChainFn3
import Derived.Test.YticlidpdmonijaaChainAct
import Derived.Test.YticlidpdmonijaaBegun8
import Derived.Test.YticlidpdmonijaaRefPlan
import Derived.Test.YticlidpdmonijaaRefGround2
import Derived.Test.YticlidpdmonijaaRecs
import Derived.Deep.RegionWith
import Derived.WalkKit
import Derived.ProofKit
import Derived.OpenShut
import Derived.ChangeOld
import Derived.Carry
import Derived.Lib.SmallJoins
import Derived.ChangeMaps5
namespace Go.Proofs.Yticlidpdmonijaa.chainPlays
open Go.ChangeShapes Go.WideShapes Go.ChangeAt Go.RowKit Go.Joins
open Go.Proofs.Yticlidpdmonijaa.Pk
set_option linter.unusedVariables false
set_option linter.unusedSimpArgs false

theorem own : ownKnob Try.prog.godebug = none := by kernel_rfl
theorem laidOut : laidOutB Try.prog = true := by kernel_rfl

theorem asB {f : FuncId} {args : Array Value} {w : World} {a b : Bool} {Q : World → Prop} (h : Calls Try.prog f args w fun e w' => e = .returned (.bool a) ∧ Q w') (hab : a = b) :
    Calls Try.prog f args w fun e w' => e = .returned (.bool b) ∧ Q w' := hab ▸ h
/-- A configuration that may be, as counts. -/
theorem cf_of {n v r k : Int} (h : mayB n v r k = true) : ∃ c : Cf, c.May ∧ n = (c.N : Int) ∧ v = (c.W : Int) ∧ r = (c.R : Int) ∧ k = (c.K : Int) := by
  have hm := may_of h
  have h1 := hm.n0; have h2 := hm.w0; have h3 := hm.r0; have h4 := hm.k0
  obtain ⟨n', rfl⟩ := Int.eq_ofNat_of_zero_le (show 0 ≤ n by omega)
  obtain ⟨v', rfl⟩ := Int.eq_ofNat_of_zero_le (show 0 ≤ v by omega)
  obtain ⟨r', rfl⟩ := Int.eq_ofNat_of_zero_le (show 0 ≤ r by omega)
  obtain ⟨k', rfl⟩ := Int.eq_ofNat_of_zero_le (show 0 ≤ k by omega)
  exact ⟨⟨n', v', r', k'⟩, hm, rfl, rfl, rfl, rfl⟩
theorem act_of {w : World} {a : Option Addr} {rs : List (List Fld)} (hr : Recs w a [.int .u8, .int .i64, .int .i64] rs) {k : Nat} (hk : k < rs.length) :
    ∃ (b off : Nat) (kind i v : Int), a = some ⟨b, off, none⟩ ∧ b < w.heap.size ∧ w.cell? ⟨b, off + k * 3, none⟩ = some (.int .u8 kind) ∧ w.cell? ⟨b, off + k * 3 + 1, none⟩ = some (.int .i64 i) ∧
      w.cell? ⟨b, off + k * 3 + 2, none⟩ = some (.int .i64 v) := by
  obtain ⟨h1, b, off, ha, hb, hc⟩ := hr k rs[k] (by simp [hk])
  generalize rs[k] = r at h1 hc
  have hl : r.length = 3 := by have := congrArg List.length h1; simpa using this
  match r, hl with
  | [f0, f1, f2], _ =>
    simp at h1
    obtain ⟨k0, k1, k2⟩ := h1
    have c0 := hc 0 f0 rfl
    have c1 := hc 1 f1 rfl
    have c2 := hc 2 f2 rfl
    cases f0 <;> simp [Fld.kd] at k0
    cases f1 <;> simp [Fld.kd] at k1
    cases f2 <;> simp [Fld.kd] at k2
    subst k0 k1 k2
    exact ⟨b, off, _, _, _, ha, hb, by simpa [Fld.val] using c0.1, by simpa [Fld.val] using c1.1, by simpa [Fld.val] using c2.1⟩

set_option maxRecDepth 100000 in
set_option maxHeartbeats 400000 in
theorem walk_no (n v r k : Int) (a : Option Addr) (cap len : Nat) (w : World) (h : mayB n v r k = false) :
    Calls Try.prog 3 #[.agg #[.int .i64 n, .int .i64 v, .int .i64 r, .int .i64 k], .slice a len cap] w fun e w' => e = .returned (.bool true) ∧ Below w.heap.size w w' := by
  have HM := Lib.hid h
  clear h
  go_enter Try.func3, Try.ntmps3
  go_wp2_with fail
  refine (gnew_no n v r k _ HM.out).mono ?_
  rintro e w1 ⟨rfl, hb⟩
  have hBk := (Blk.new w #[.int .i64 n, .int .i64 v, .int .i64 r, .int .i64 k] 23).later hb
  have c0 := hBk.cell 0 rfl
  have c1 := hBk.cell 1 rfl
  have c2 := hBk.cell 2 rfl
  have c3 := hBk.cell 3 rfl
  have HB := Lib.hid (below_step (below_new w _) hb)
  have hz : w.heap.size < w1.heap.size := hBk.lt
  clear hb hBk
  go_wp2_with fail
  refine (refMay_no n v r k _ HM.out).mono ?_
  rintro e w2 ⟨rfl, hb⟩
  have HB2 := Lib.hid (below_step HB.out hb)
  clear hb
  go_wp2_with fail
  refine (begun8_any chainFns _).mono ?_
  rintro e w3 ⟨rfl, hb⟩
  have HB3 := Lib.hid (below_step HB2.out hb)
  clear hb
  go_wp2_with fail
  go_ret
  exact ⟨rfl, HB3.out⟩

/-- What holds at each act's head. -/
def PlayAt (w : World) (p : Pl) (q : Nat) (c : Cf) (k : Nat) (wr : World) : Prop := ∃ s la lb, Two wr p c s q la lb ∧ la.length + lb.length ≤ k ∧ Below w.heap.size w wr

set_option maxRecDepth 100000 in
set_option maxHeartbeats 400000 in
theorem walk_big (c : Cf) (a : Option Addr) (cap len : Nat) (w : World) (h : c.May) (hb : littleB c.N c.W c.R = false ∨ 200 < (len : Int)) (hm : len ≤ maxLen) :
    Calls Try.prog 3 #[c.val, .slice a len cap] w fun e w' => e = .returned (.bool true) ∧ Below w.heap.size w w' := by
  unfold maxLen at hm
  have HM := Lib.hid h
  have HL := Lib.hid hb
  have hg := gnew_yes c (w.alloc (.cells #[.int .i64 (c.N : Int), .int .i64 (c.W : Int), .int .i64 (c.R : Int), .int .i64 (c.K : Int)] 23)) h
  unfold Cf.val at hg ⊢
  have HGN := Lib.hid hg
  clear h hb hg
  go_enter Try.func3, Try.ntmps3
  go_wp2_with fail
  refine HGN.out.mono ?_
  rintro e w1 ⟨p, rfl, hG, hp, hb⟩
  have hBk := (Blk.new w #[.int .i64 (c.N : Int), .int .i64 (c.W : Int), .int .i64 (c.R : Int), .int .i64 (c.K : Int)] 23).later hb
  have c0 := hBk.cell 0 rfl
  have c1 := hBk.cell 1 rfl
  have c2 := hBk.cell 2 rfl
  have c3 := hBk.cell 3 rfl
  have HBk := Lib.hid hBk
  have HB := Lib.hid (below_step (below_new w _) hb)
  clear hb hBk hG hp
  go_wp2_with fail
  refine (refMay_yes _ _ _ _ _ HM.out).mono ?_
  rintro e w2 ⟨rfl, hb⟩
  have hBk := HBk.out.later hb
  have d0 := hBk.cell 0 rfl
  have d1 := hBk.cell 1 rfl
  have d2 := hBk.cell 2 rfl
  have d3 := hBk.cell 3 rfl
  have HB2 := Lib.hid (below_step HB.out hb)
  clear hb hBk
  cases hlt : littleB c.N c.W c.R with
  | false =>
    have HLt := Lib.hid hlt
    clear hlt
    go_wp2_with fail
    refine (asB (little_any _ _ _ _ _) HLt.out).mono ?_
    rintro e w3 ⟨rfl, hb⟩
    have HB3 := Lib.hid (below_step HB2.out hb)
    clear hb
    go_wp2_with fail
    refine (begun8_any chainFns _).mono ?_
    rintro e w4 ⟨rfl, hb⟩
    have HB4 := Lib.hid (below_step HB3.out hb)
    clear hb
    go_wp2_with fail
    go_ret
    exact ⟨rfl, HB4.out⟩
  | true =>
    have HLt := Lib.hid hlt
    have hd200 : decide ((200 : Int) < (len : Int)) = true := by
      rcases HL.out with h | h
      · rw [hlt] at h; cases h
      · simp; omega
    clear hlt
    go_wp2_with fail
    refine (asB (little_any _ _ _ _ _) HLt.out).mono ?_
    rintro e w3 ⟨rfl, hb⟩
    have HB3 := Lib.hid (below_step HB2.out hb)
    clear hb
    go_wp2_with fail
    refine (begun8_any chainFns _).mono ?_
    rintro e w4 ⟨rfl, hb⟩
    have HB4 := Lib.hid (below_step HB3.out hb)
    clear hb
    go_wp2_with fail
    go_ret
    exact ⟨rfl, HB4.out⟩

theorem stands0 (p : Pl) (c : Cf) (s : St) (l : List Nat) (a : Option Addr) (cap : Nat) (w : World) (hG : G w p c s) (hC : ChainAt c s.zs 0 l) (hr : Row w .i64 a (ints l)) (hl : l.length ≤ 10000) :
    Calls Try.prog 11 #[.pointer (some ⟨p.a, 0, none⟩), .int .i64 0, .slice a l.length cap] w fun e w' => e = .returned (.bool true) ∧ Drw w w' := stands_any p c s 0 l a cap w hG hC (Or.inl rfl) hr hl
theorem stands1 (p : Pl) (c : Cf) (s : St) (l : List Nat) (a : Option Addr) (cap : Nat) (w : World) (hG : G w p c s) (hC : ChainAt c s.zs 1 l) (hr : Row w .i64 a (ints l)) (hl : l.length ≤ 10000) :
    Calls Try.prog 11 #[.pointer (some ⟨p.a, 0, none⟩), .int .i64 1, .slice a l.length cap] w fun e w' => e = .returned (.bool true) ∧ Drw w w' := stands_any p c s 1 l a cap w hG hC (Or.inr rfl) hr hl

set_option maxRecDepth 100000 in
set_option maxHeartbeats 2000000 in
theorem walk_few (c : Cf) (a : Option Addr) (cap : Nat) (rs : List (List Fld)) (w : World) (h : c.May) (hb : littleB c.N c.W c.R = true) (hn : (rs.length : Int) ≤ 200) (hr : Recs w a [.int .u8, .int .i64, .int .i64] rs) :
    Calls Try.prog 3 #[c.val, .slice a rs.length cap] w fun e w' => e = .returned (.bool true) ∧ Below w.heap.size w w' := by
  have HM := Lib.hid h
  have HL := Lib.hid hb
  have HR := Lib.hid hr
  have hg := gnew_yes c (w.alloc (.cells #[.int .i64 (c.N : Int), .int .i64 (c.W : Int), .int .i64 (c.R : Int), .int .i64 (c.K : Int)] 23)) h
  have hd200 : decide ((200 : Int) < (rs.length : Int)) = false := by simp; omega
  unfold Cf.val at hg ⊢
  have HGN := Lib.hid hg
  clear h hb hg hr
  go_enter Try.func3, Try.ntmps3
  go_wp2_with fail
  refine HGN.out.mono ?_
  rintro e w1 ⟨p, rfl, hG, hp, hb⟩
  have hBk := (Blk.new w #[.int .i64 (c.N : Int), .int .i64 (c.W : Int), .int .i64 (c.R : Int), .int .i64 (c.K : Int)] 23).later hb
  have c0 := hBk.cell 0 rfl
  have c1 := hBk.cell 1 rfl
  have c2 := hBk.cell 2 rfl
  have c3 := hBk.cell 3 rfl
  have HG1 := Lib.hid hG
  have HP := Lib.hid (fun k hk => Nat.le_trans (below_new w _).size (hp k hk))
  have HB := Lib.hid (below_step (below_new w _) hb)
  have HBk := Lib.hid hBk
  clear hb hBk hG hp
  go_wp2_with fail
  refine (refMay_yes _ _ _ _ _ HM.out).mono ?_
  rintro e w2 ⟨rfl, hb⟩
  have HG2 := Lib.hid (HG1.out.later hb)
  have hBk := HBk.out.later hb
  have d0 := hBk.cell 0 rfl
  have d1 := hBk.cell 1 rfl
  have d2 := hBk.cell 2 rfl
  have d3 := hBk.cell 3 rfl
  have HB2 := Lib.hid (below_step HB.out hb)
  clear hb hBk c0 c1 c2 c3
  go_wp2_with fail
  refine (asB (little_any _ _ _ _ _) HL.out).mono ?_
  rintro e w3 ⟨rfl, hb⟩
  have HG3 := Lib.hid (HG2.out.later hb)
  have HB3 := Lib.hid (below_step HB2.out hb)
  clear hb d0 d1 d2 d3
  have hp5 : PlayAt w p w3.heap.size c 0 (w3.alloc (.cells #[.slice none 0 0, .slice none 0 0] 34)) := by
    have hne : ∀ k, ofG p k → k ≠ w3.heap.size := fun k hk => by
      have h2 := HG3.out
      rcases hk with rfl | rfl | rfl
      · have := h2.head.lt; omega
      · have := h2.st.head.lt; omega
      · have := h2.st.body.lt; omega
    refine ⟨_, [], [], ⟨HG3.out.alloc _, ⟨⟨none, 0, none, 0, Blk.new _ _ _, Row.nil _ _ _, Row.nil _ _ _, ?_, ?_⟩, Or.inl rfl⟩, fun hx => hne _ hx rfl, ChainAt.zero c _ 0, ChainAt.zero c _ 1, fun x hx => absurd hx (by simp)⟩, Nat.le_refl _, HB3.out.alloc HB3.out.size _⟩
    · intro h0 b off hh; cases hh
    · intro h0 b off hh; cases hh
  have HQ : Hid (w.heap.size ≤ w3.heap.size) := Lib.hid HB3.out.size
  go_wp2_with fail
  generalize hq : w3.heap.size = q at *
  generalize hw5 : w3.alloc _ = w5 at *
  go_loopw [35] (fun i wr => ∃ k : Nat, k ≤ rs.length ∧ i = .int .i64 k ∧ PlayAt w p q c k wr) (fun i _ => rs.length - (intOf i).toNat)
  case atStart => exact ⟨0, Nat.zero_le _, rfl, hp5⟩
  case round =>
    obtain ⟨k, hk, rfl, s, la, lb, hD, hlen, hbel⟩ := hrel
    clear hw5 hq hp5
    have HD := Lib.hid hD
    have HBe := Lib.hid hbel
    have HX : Hid (∀ k, XC p q k → w.heap.size ≤ k) := Lib.hid (fun k hk => hk.elim (fun h => by rw [h]; exact HQ.out) (fun h => HP.out k (.inr h)))
    by_cases hlt : k < rs.length
    · obtain ⟨b, off, kind, i, v, rfl, hb0, x0, x1, x2⟩ := act_of HR.out hlt
      have y0 := (hbel.cell (p := ⟨b, off + k * 3, none⟩) hb0).trans x0
      have y1 := (hbel.cell (p := ⟨b, off + k * 3 + 1, none⟩) hb0).trans x1
      have y2 := (hbel.cell (p := ⟨b, off + k * 3 + 2, none⟩) hb0).trans x2
      have HF : Hid (¬ XC p q wr.heap.size) := Lib.hid (fresh_not HD.out)
      clear hD hbel x0 x1 x2 hb0
      go_wp2_with fail
      refine (do_any chainFns p c s q la lb _ (HD.out.later (below_new wr (.cells #[.int .u8 kind, .int .i64 i, .int .i64 v] 36))) (by omega) kind i v).mono ?_
      rintro e w6 ⟨rfl, s6, la6, lb6, hD6, hl6, hT6⟩
      obtain ⟨a1, cc1, a2, cc2, hq6, hr1, hr2, _, _⟩ := hD6.ch.is
      have zq0 := hq6.cell 0 rfl
      have HR1 := Lib.hid hr1
      have HR2 := Lib.hid hr2
      have HQ6 := Lib.hid hq6
      have HD6 := Lib.hid hD6
      have HT6 := Lib.hid hT6
      clear hD6 hT6 hr1 hr2 hq6
      go_wp2_with fail
      refine (stands0 p c s6 la6 a1 cc1 _ HD6.out.gr HD6.out.a0 HR1.out (by omega)).mono ?_
      rintro e w7 ⟨rfl, hd⟩
      have HD7 := Lib.hid (HD6.out.later hd.new)
      have HR7 := Lib.hid (HR2.out.drw hd)
      have zr1 := (HQ6.out.later hd.new).cell 1 rfl
      have HW7 := Lib.hid hd
      clear hd zq0
      go_wp2_with fail
      refine (stands1 p c s6 lb6 a2 cc2 _ HD7.out.gr HD7.out.a1 HR7.out (by omega)).mono ?_
      rintro e w8 ⟨rfl, hd⟩
      have HD8 := Lib.hid (HD7.out.later hd.new)
      have HW8 := Lib.hid hd
      clear hd zr1
      go_wp2_with fail
      go_roundw
      case rel => exact ⟨k + 1, by omega, by go_num, _, _, _, HD8.out, by omega, ((HBe.out.alloc HBe.out.size _).trans (HT6.out.below (B := w.heap.size) (fun k hk => HX.out k hk) (by have := HBe.out.size; simp; omega))).trans ((HW7.out.below _).trans (HW8.out.below _))⟩
      case measure => simp [intOf]; omega
    · clear hD hbel
      go_wp2_with fail
      refine (begun8_any chainFns _).mono ?_
      rintro e w4 ⟨rfl, hb⟩
      have HB4 := Lib.hid (below_step HBe.out hb)
      clear hb
      go_wp2_with fail
      go_ret
      exact ⟨rfl, HB4.out⟩

theorem walk (n v r k : Int) (a : Option Addr) (cap : Nat) (rs : List (List Fld)) (w : World) (hn : (Lit.int .i64 n).wf = true) (hv : (Lit.int .i64 v).wf = true) (hr : (Lit.int .i64 r).wf = true) (hk : (Lit.int .i64 k).wf = true) (hrs : Recs w a [.int .u8, .int .i64, .int .i64] rs) (hm : rs.length ≤ maxLen) :
    Calls Try.prog 3 #[.agg #[.int .i64 n, .int .i64 v, .int .i64 r, .int .i64 k], .slice a rs.length cap] w fun e w' => e = .returned (.bool true) ∧ Below w.heap.size w w' := by
  cases h : mayB n v r k with
  | false => exact walk_no n v r k a cap _ w h
  | true =>
    obtain ⟨c, hc, rfl, rfl, rfl, rfl⟩ := cf_of h
    cases hb : littleB c.N c.W c.R with
    | false => exact walk_big c a cap _ w hc (.inl hb) hm
    | true =>
      by_cases hl : 200 < (rs.length : Int)
      · exact walk_big c a cap _ w hc (.inr hl) hm
      · exact walk_few c a cap rs w hc hb (by omega) hrs

/-! ### The row -/
set_option maxRecDepth 100000 in
theorem lifted (os : Os) (started : os.Started) (H : Type) (enc : TypeId × Value → H) :
    ReturnsInHanded {} Try.checked os 3 .any (Rows.chainPlaysSpec.pre6 enc Try.prog Try.f3 Rows.chainPlaysRow.domain false) (Rows.chainPlaysSpec.post enc Try.prog Try.f3 false true false false) := by
  refine returnsInHanded_of_change (C := Try.checked) own started (by kernel_rfl) Try.func3
    (ChangeSpec.witness6 (enc := enc) (C := Try.checked) false ⟨#[], #[.agg #[.int .i64 0, .int .i64 0, .int .i64 0, .int .i64 0], .slice none 0 0], []⟩ 8 (by kernel_rfl) (by kernel_rfl) (by kernel_rfl) (by kernel_rfl)) ?_
  intro W base args ds gs before hval0 hW hcnd _
  have hval : ∀ (j : Nat) t v, Try.f3.params[j]? = some t → args[j]? = some v → Value.okWide Try.prog W .any base t v := hval0
  have hW' := hW
  obtain ⟨p, q, hA0, hV, rfl, hfz, hnd⟩ := hW
  have hA : DataW.TrodAll enc Try.prog W 0 (fun _ => true) true Try.f3.params.toList args.toList ds p := hA0
  rw [Try.params3] at hA hval
  obtain ⟨v0, vs0, d0, ds0, p0, q0, hargs, rfl, rfl, h0, r0⟩ := trodAll_cons hA
  obtain ⟨v1, vs1, d1, ds1, p1, q1, rfl, rfl, rfl, h1, r1⟩ := trodAll_cons r0
  obtain ⟨rfl, rfl, rfl⟩ := trodAll_nil r1
  obtain rfl : args = #[v0, v1] := by cases args; simp_all
  obtain ⟨rfl, rfl⟩ := trodVars_none hV
  have k0 := h0
  have lt0 : ∀ x ∈ p0, x.block < W.heap.size := by obtain ⟨m, hm⟩ := k0; exact DataW.trod_lt m _ _ _ hm
  obtain ⟨c00, c01, c02, c03, y00, y01, y02, y03, m0, rfl, hd0, hp0, hy00, hy01, hy02, hy03⟩ := open_agg4 Try.underlying23 (by kernel_rfl) (by kernel_rfl) (hval 0 23 v0 rfl rfl) h0
  obtain ⟨a00, e00, hdd00, w00⟩ := DataW.trod_int Try.underlying3 hy00
  obtain ⟨a01, e01, hdd01, w01⟩ := DataW.trod_int Try.underlying3 hy01
  obtain ⟨a02, e02, hdd02, w02⟩ := DataW.trod_int Try.underlying3 hy02
  obtain ⟨a03, e03, hdd03, w03⟩ := DataW.trod_int Try.underlying3 hy03
  simp at e00 e01 e02 e03
  subst e00 e01 e02 e03
  have k1 := h1
  have lt1 : ∀ x ∈ p1, x.block < W.heap.size := by obtain ⟨m, hm⟩ := k1; exact DataW.trod_lt m _ _ _ hm
  obtain ⟨a1, len1, cap1, rfl⟩ := okWide_slice Try.underlying24 (hval 1 24 v1 rfl rfl)
  obtain ⟨z1, hl1, ro1, m1⟩ : ∃ rs : List (List Fld), len1 = rs.length ∧ Recs W a1 [.int .u8, .int .i64, .int .i64] rs ∧ len1 ≤ maxLen := by
    obtain ⟨fuel, hf⟩ := h1
    rcases open_recs Try.underlying24 Try.underlying36 (by kernel_rfl) (by kernel_rfl) [.int .u8, .int .i64, .int .i64] (by decide) ⟨Try.underlying5, Try.underlying3, Try.underlying3, trivial⟩ hf with hcs | ⟨x, l, c, rs, hcs, hm, hl, hr⟩
    · simp [Value.cells] at hcs
      obtain ⟨rfl, rfl, rfl⟩ := hcs
      exact ⟨[], rfl, Recs.nil _ _ _, Nat.zero_le _⟩
    · simp [Value.cells] at hcs
      obtain ⟨rfl, rfl, rfl⟩ := hcs
      exact ⟨rs, hl.symm, hr, hm⟩
  subst hl1
  clear hA0 hval0
  refine (walk a00 a01 a02 a03 a1 cap1 z1 W w00 w01 w02 w03 ro1 m1).mono fun e W' ⟨he, bel⟩ => ?_
  subst he
  exact ⟨_, rfl, _, _, _, [], _, [], hW', trodAll_mk1 (shut_bool Try.underlying4 _), (trodAll_cons_mk (Below.trod laidOut (by kernel_rfl) (of_decide_eq_true (by kernel_rfl)) k0 bel lt0) (trodAll_cons_mk (Below.trod laidOut (by kernel_rfl) (of_decide_eq_true (by kernel_rfl)) k1 bel lt1) trodAll_mk0)), rfl, bel.frame _, fun h => by cases h⟩

theorem over : Rows.chainPlaysRow.holds Try.pinned (OpenSpec.ofChange Rows.chainPlaysSpec) :=
  OpenClaim.holds_of_wide 3 Try.f3 rfl rfl rfl rfl rfl rfl rfl ⟨rfl, rfl, rfl, rfl, rfl⟩ rfl rfl rfl rfl rfl (by kernel_rfl) Try.func3 (by kernel_rfl)
    (of_decide_eq_true (by kernel_rfl)) (by unfold Func.isWrapper; first | (rw [if_pos (by decide +kernel)]; kernel_rfl) | (rw [if_neg (by decide +kernel)]; exact ⟨rfl, rfl⟩))
    (fun os started H enc _ => lifted os started H enc)

theorem proved : Rows.ChainPlaysSaid := over
#print axioms proved
end Go.Proofs.Yticlidpdmonijaa.chainPlays
