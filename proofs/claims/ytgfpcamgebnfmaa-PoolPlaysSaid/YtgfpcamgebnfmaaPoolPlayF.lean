/-
  Layer 10: the law of plays, of a package pool that does what it must.
-/
import Derived.Test.YtgfpcamgebnfmaaPoolBegun
import Derived.Test.YtgfpcamgebnfmaaRefPlan
import Derived.Test.YtgfpcamgebnfmaaRefGround2
import Derived.Test.YtgfpcamgebnfmaaFlat
import Derived.Deep.RegionWith
namespace Go.Proofs.Ytgfpcamgebnfmaa.Pk
open Go.RowKit
set_option linter.unusedVariables false
set_option linter.unusedSimpArgs false

abbrev pks : List Kd := [.int .u8, .int .i64, .int .i64, .int .i64, .int .i64, .int .i64, .int .i64, .int .i64, .int .i64, .int .u32]
theorem pact_of {w : World} {a : Option Addr} {rs : List (List Fld)} (hr : Recs w a pks rs) {k : Nat} (hk : k < rs.length) :
    ∃ (b off : Nat) (kind i t0 t1 t2 t3 t4 t5 t6 x : Int), a = some ⟨b, off, none⟩ ∧ b < w.heap.size ∧ w.cell? ⟨b, off + k * 10, none⟩ = some (.int .u8 kind) ∧ w.cell? ⟨b, off + k * 10 + 1, none⟩ = some (.int .i64 i) ∧
      w.cell? ⟨b, off + k * 10 + 2, none⟩ = some (.int .i64 t0) ∧ w.cell? ⟨b, off + k * 10 + 3, none⟩ = some (.int .i64 t1) ∧ w.cell? ⟨b, off + k * 10 + 4, none⟩ = some (.int .i64 t2) ∧ w.cell? ⟨b, off + k * 10 + 5, none⟩ = some (.int .i64 t3) ∧ w.cell? ⟨b, off + k * 10 + 6, none⟩ = some (.int .i64 t4) ∧ w.cell? ⟨b, off + k * 10 + 7, none⟩ = some (.int .i64 t5) ∧ w.cell? ⟨b, off + k * 10 + 8, none⟩ = some (.int .i64 t6) ∧ w.cell? ⟨b, off + k * 10 + 9, none⟩ = some (.int .u32 x) ∧ 0 ≤ x ∧ x ≤ 4294967295 := by
  obtain ⟨h1, b, off, ha, hb, hc⟩ := hr k rs[k] (by simp [hk])
  generalize rs[k] = r at h1 hc
  have hl : r.length = 10 := by have := congrArg List.length h1; simpa using this
  match r, hl with
  | [f0, f1, f2, f3, f4, f5, f6, f7, f8, f9], _ =>
    simp at h1
    obtain ⟨k0, k1, k2, k3, k4, k5, k6, k7, k8, k9⟩ := h1
    have c0 := hc 0 f0 rfl
    have c1 := hc 1 f1 rfl
    have c2 := hc 2 f2 rfl
    have c3 := hc 3 f3 rfl
    have c4 := hc 4 f4 rfl
    have c5 := hc 5 f5 rfl
    have c6 := hc 6 f6 rfl
    have c7 := hc 7 f7 rfl
    have c8 := hc 8 f8 rfl
    have c9 := hc 9 f9 rfl
    cases f0 <;> simp [Fld.kd] at k0
    cases f1 <;> simp [Fld.kd] at k1
    cases f2 <;> simp [Fld.kd] at k2
    cases f3 <;> simp [Fld.kd] at k3
    cases f4 <;> simp [Fld.kd] at k4
    cases f5 <;> simp [Fld.kd] at k5
    cases f6 <;> simp [Fld.kd] at k6
    cases f7 <;> simp [Fld.kd] at k7
    cases f8 <;> simp [Fld.kd] at k8
    cases f9 <;> simp [Fld.kd] at k9
    subst k0 k1 k2 k3 k4 k5 k6 k7 k8 k9
    refine ⟨b, off, _, _, _, _, _, _, _, _, _, _, ha, hb, by simpa [Fld.val] using c0.1, by simpa [Fld.val] using c1.1, by simpa [Fld.val] using c2.1, by simpa [Fld.val] using c3.1, by simpa [Fld.val] using c4.1, by simpa [Fld.val] using c5.1, by simpa [Fld.val] using c6.1, by simpa [Fld.val] using c7.1, by simpa [Fld.val] using c8.1, by simpa [Fld.val] using c9.1, ?_⟩
    have := c9.2
    simp [Fld.ok, Lit.wf, IntKind.min, IntKind.max, IntKind.signed, IntKind.bits] at this
    omega

set_option maxRecDepth 100000 in
set_option maxHeartbeats 400000 in
theorem poolPlays_no (F : PoolFns) (n v r k : Int) (a : Option Addr) (cap len : Nat) (w : World) (h : mayB n v r k = false) :
    Calls Try.prog 3 #[.agg #[.int .i64 n, .int .i64 v, .int .i64 r, .int .i64 k], .slice a len cap] w fun e w' => e = .returned (.bool true) ∧ Below w.heap.size w w' := by
  have HM := Lib.hid h
  clear h
  go_enter Try.func3, Try.ntmps3
  go_wp2_with fail
  refine (gnew_no n v r k _ HM.out).mono ?_
  rintro e w1 ⟨rfl, hb⟩
  have hBk := (Blk.new w #[.int .i64 n, .int .i64 v, .int .i64 r, .int .i64 k] 23).later hb
  have c0 := hBk.cell 0 rfl
  have c1 := hBk.cell 1 rfl
  have c2 := hBk.cell 2 rfl
  have c3 := hBk.cell 3 rfl
  have HB := Lib.hid (below_step (below_new w _) hb)
  have hz : w.heap.size < w1.heap.size := hBk.lt
  clear hb hBk
  go_wp2_with fail
  refine (refMay_no n v r k _ HM.out).mono ?_
  rintro e w2 ⟨rfl, hb⟩
  have HB2 := Lib.hid (below_step HB.out hb)
  clear hb
  go_wp2_with fail
  refine (begun10_any F _).mono ?_
  rintro e w3 ⟨rfl, hb⟩
  have HB3 := Lib.hid (below_step HB2.out hb)
  clear hb
  go_wp2_with fail
  go_ret
  exact ⟨rfl, HB3.out⟩

set_option maxRecDepth 100000 in
set_option maxHeartbeats 400000 in
theorem poolPlays_big (F : PoolFns) (c : Cf) (a : Option Addr) (cap len : Nat) (w : World) (h : c.May) (hb : littleB c.N c.W c.R = false ∨ 200 < (len : Int)) (hm : len ≤ maxLen) :
    Calls Try.prog 3 #[c.val, .slice a len cap] w fun e w' => e = .returned (.bool true) ∧ Below w.heap.size w w' := by
  unfold maxLen at hm
  have HM := Lib.hid h
  have HL := Lib.hid hb
  have hg := gnew_yes c (w.alloc (.cells #[.int .i64 (c.N : Int), .int .i64 (c.W : Int), .int .i64 (c.R : Int), .int .i64 (c.K : Int)] 23)) h
  unfold Cf.val at hg ⊢
  have HGN := Lib.hid hg
  clear h hb hg
  go_enter Try.func3, Try.ntmps3
  go_wp2_with fail
  refine HGN.out.mono ?_
  rintro e w1 ⟨p, rfl, hG, hp, hb⟩
  have hBk := (Blk.new w #[.int .i64 (c.N : Int), .int .i64 (c.W : Int), .int .i64 (c.R : Int), .int .i64 (c.K : Int)] 23).later hb
  have c0 := hBk.cell 0 rfl
  have c1 := hBk.cell 1 rfl
  have c2 := hBk.cell 2 rfl
  have c3 := hBk.cell 3 rfl
  have HBk := Lib.hid hBk
  have HB := Lib.hid (below_step (below_new w _) hb)
  clear hb hBk hG hp
  go_wp2_with fail
  refine (refMay_yes _ _ _ _ _ HM.out).mono ?_
  rintro e w2 ⟨rfl, hb⟩
  have hBk := HBk.out.later hb
  have d0 := hBk.cell 0 rfl
  have d1 := hBk.cell 1 rfl
  have d2 := hBk.cell 2 rfl
  have d3 := hBk.cell 3 rfl
  have HB2 := Lib.hid (below_step HB.out hb)
  clear hb hBk
  cases hlt : littleB c.N c.W c.R with
  | false =>
    have HLt := Lib.hid hlt
    clear hlt
    go_wp2_with fail
    refine (asBQ (little_any _ _ _ _ _) HLt.out).mono ?_
    rintro e w3 ⟨rfl, hb⟩
    have HB3 := Lib.hid (below_step HB2.out hb)
    clear hb
    go_wp2_with fail
    refine (begun10_any F _).mono ?_
    rintro e w4 ⟨rfl, hb⟩
    have HB4 := Lib.hid (below_step HB3.out hb)
    clear hb
    go_wp2_with fail
    go_ret
    exact ⟨rfl, HB4.out⟩
  | true =>
    have HLt := Lib.hid hlt
    have hd200 : decide ((200 : Int) < (len : Int)) = true := by
      rcases HL.out with h | h
      · rw [hlt] at h; cases h
      · simp; omega
    clear hlt
    go_wp2_with fail
    refine (asBQ (little_any _ _ _ _ _) HLt.out).mono ?_
    rintro e w3 ⟨rfl, hb⟩
    have HB3 := Lib.hid (below_step HB2.out hb)
    clear hb
    go_wp2_with fail
    refine (begun10_any F _).mono ?_
    rintro e w4 ⟨rfl, hb⟩
    have HB4 := Lib.hid (below_step HB3.out hb)
    clear hb
    go_wp2_with fail
    go_ret
    exact ⟨rfl, HB4.out⟩

set_option maxRecDepth 100000 in
set_option maxHeartbeats 2000000 in
theorem poolPlays_few (F : PoolFns) (c : Cf) (a : Option Addr) (cap : Nat) (rs : List (List Fld)) (w : World) (h : c.May) (hb : littleB c.N c.W c.R = true) (hn : (rs.length : Int) ≤ 200) (hr : Recs w a pks rs) :
    Calls Try.prog 3 #[c.val, .slice a rs.length cap] w fun e w' => e = .returned (.bool true) ∧ Below w.heap.size w w' := by
  have HM := Lib.hid h
  have HL := Lib.hid hb
  have hNs : c.N ≤ 300 := by unfold littleB at hb; simp at hb; omega
  have HR := Lib.hid hr
  have hg := gnew_yes c (w.alloc (.cells #[.int .i64 (c.N : Int), .int .i64 (c.W : Int), .int .i64 (c.R : Int), .int .i64 (c.K : Int)] 23)) h
  have hd200 : decide ((200 : Int) < (rs.length : Int)) = false := by simp; omega
  unfold Cf.val at hg ⊢
  have HGN := Lib.hid hg
  obtain ⟨zo, hzo, hOp⟩ := F.open_yes c h
  obtain ⟨dO, _, HO⟩ := hzo
  have DO := Lib.hid (fun p m w hG => HO p m w hG)
  have HOp := Lib.hid hOp
  clear h hb hg hr HO hOp
  go_enter Try.func3, Try.ntmps3
  go_wp2_with fail
  refine HGN.out.mono ?_
  rintro e w1 ⟨p, rfl, hG, hp, hb⟩
  have HG := Lib.hid hG
  have HP : Hid (∀ k, inG p k → w.heap.size ≤ k) := Lib.hid (fun k hk => Nat.le_trans (below_new w _).size (hp k (Or.inr hk)))
  have HT : Hid (Below w.heap.size w w1) := Lib.hid (below_step (below_new w _) hb)
  have HBk := Lib.hid ((Blk.new w #[.int .i64 (c.N : Int), .int .i64 (c.W : Int), .int .i64 (c.R : Int), .int .i64 (c.K : Int)] 23).later hb)
  have HNo : Hid (¬ inG p w.heap.size) := Lib.hid (fun hx => by have := hp _ (Or.inr hx); simp at this; omega)
  clear hb hG hp
  have HT0 : Hid (Below w.heap.size w w) := Lib.hid (Below.refl _ _)
  have cHBk0 := HBk.out.cell 0 rfl
  have cHBk1 := HBk.out.cell 1 rfl
  have cHBk2 := HBk.out.cell 2 rfl
  have cHBk3 := HBk.out.cell 3 rfl
  go_wp2_with fail
  refine (refMay_yes _ _ _ _ _ HM.out).mono ?_
  rintro e wm1 ⟨rfl, hb⟩
  have HG1 := Lib.hid (HG.out.later hb)
  have HT1 : Hid (Below w.heap.size w wm1) := Lib.hid (below_step HT.out hb)
  have HBk1 := Lib.hid (HBk.out.later hb)
  clear hb
  clear cHBk0 cHBk1 cHBk2 cHBk3
  have cHBk0 := HBk1.out.cell 0 rfl
  have cHBk1 := HBk1.out.cell 1 rfl
  have cHBk2 := HBk1.out.cell 2 rfl
  have cHBk3 := HBk1.out.cell 3 rfl
  go_wp2_with fail
  refine (asBQ (little_any _ _ _ _ _) HL.out).mono ?_
  rintro e wm2 ⟨rfl, hb⟩
  have HG2 := Lib.hid (HG1.out.later hb)
  have HT2 : Hid (Below w.heap.size w wm2) := Lib.hid (below_step HT1.out hb)
  have HBk2 := Lib.hid (HBk1.out.later hb)
  clear hb
  clear cHBk0 cHBk1 cHBk2 cHBk3
  have cHBk0 := HBk2.out.cell 0 rfl
  have cHBk1 := HBk2.out.cell 1 rfl
  have cHBk2 := HBk2.out.cell 2 rfl
  have cHBk3 := HBk2.out.cell 3 rfl
  go_wp2_with fail
  refine (DO.out p 0 _ HG2.out).mono ?_
  rintro e w4 ⟨rfl, hG4, hT4⟩
  have HG4 := Lib.hid hG4
  have HB4 := Lib.hid (HT2.out.trans (hT4.below (B := w.heap.size) HP.out HT2.out.size))
  have c0 := (HBk2.out.touch hT4 HNo.out).cell 0 rfl
  clear hG4 hT4
  clear cHBk0 cHBk1 cHBk2 cHBk3
  go_wp2_with fail
  refine (refOpen_any c.N _ (by omega)).mono ?_
  rintro e w5 ⟨a0, cap0, rfl, hr0, hf0, hb5⟩
  have hp5 : ∃ (l : List Nat) (s : St) (al : Option Addr) (cl : Nat), (Value.slice a0 (List.range c.N).length cap0 = .slice al l.length cl) ∧ AtP w5 p c s l al ∧ Below w.heap.size w w5 :=
    ⟨List.range c.N, _, a0, cap0, rfl, ⟨HG4.out.later hb5, HOp.out.1, hr0, fresh_outG HG4.out hf0, by omega⟩, below_step HB4.out hb5⟩
  clear hr0 hf0 hb5 c0
  go_wp2_with fail
  go_loopw [7, 43] (fun v i wr => ∃ k : Nat, k ≤ rs.length ∧ i = .int .i64 (k : Int) ∧ ∃ (l : List Nat) (s : St) (al : Option Addr) (cl : Nat), (v = .slice al l.length cl) ∧ AtP wr p c s l al ∧ Below w.heap.size w wr) (fun _ i _ => rs.length - (intOf i).toNat)
  case atStart => exact ⟨0, Nat.zero_le _, rfl, by simpa using hp5⟩
  case round =>
    obtain ⟨k, hk, rfl, l, s, al, cl, rfl, hA, hbel⟩ := hrel
    clear hp5
    have HBe := Lib.hid hbel
    by_cases hlt : k < rs.length
    · obtain ⟨b, off, kind, i, t0, t1, t2, t3, t4, t5, t6, x, rfl, hb0, x0, x1, x2, x3, x4, x5, x6, x7, x8, x9, hx0, hx1⟩ := pact_of HR.out hlt
      have y0 := (hbel.cell (p := ⟨b, off + k * 10, none⟩) hb0).trans x0
      have y1 := (hbel.cell (p := ⟨b, off + k * 10 + 1, none⟩) hb0).trans x1
      have y2 := (hbel.cell (p := ⟨b, off + k * 10 + 2, none⟩) hb0).trans x2
      have y3 := (hbel.cell (p := ⟨b, off + k * 10 + 3, none⟩) hb0).trans x3
      have y4 := (hbel.cell (p := ⟨b, off + k * 10 + 4, none⟩) hb0).trans x4
      have y5 := (hbel.cell (p := ⟨b, off + k * 10 + 5, none⟩) hb0).trans x5
      have y6 := (hbel.cell (p := ⟨b, off + k * 10 + 6, none⟩) hb0).trans x6
      have y7 := (hbel.cell (p := ⟨b, off + k * 10 + 7, none⟩) hb0).trans x7
      have y8 := (hbel.cell (p := ⟨b, off + k * 10 + 8, none⟩) hb0).trans x8
      have y9 := (hbel.cell (p := ⟨b, off + k * 10 + 9, none⟩) hb0).trans x9
      have HA : Hid (AtP (wr.alloc (.cells #[.int .u8 kind, .int .i64 i, .int .i64 t0, .int .i64 t1, .int .i64 t2, .int .i64 t3, .int .i64 t4, .int .i64 t5, .int .i64 t6, .int .u32 x] 38)) p c s l al) := Lib.hid ⟨hA.gr.alloc _, hA.pool, hA.r.alloc _, hA.o, hA.hN⟩
      have HB1 : Hid (Below w.heap.size w (wr.alloc (.cells #[.int .u8 kind, .int .i64 i, .int .i64 t0, .int .i64 t1, .int .i64 t2, .int .i64 t3, .int .i64 t4, .int .i64 t5, .int .i64 t6, .int .u32 x] 38))) := Lib.hid (hbel.alloc hbel.size _)
      clear hA hbel x0 x1 x2 x3 x4 x5 x6 x7 x8 x9 hb0
      go_wp2_with fail
      refine (pdo_any F p c s l al cl kind i t0 t1 t2 t3 t4 t5 t6 x _ HA.out hx0 hx1).mono ?_
      rintro e w6 ⟨l2, a2, cap2, s2, rfl, hA2, hT2⟩
      have HA2 := Lib.hid hA2
      have HG6 := Lib.hid hA2.gr
      have HR6 := Lib.hid hA2.r
      have HB2 := Lib.hid (HB1.out.trans (hT2.below (B := w.heap.size) HP.out HB1.out.size))
      have hl2 := hA2.hl
      clear hA2 hT2 y0 y1 y2 y3 y4 y5 y6 y7 y8 y9
      have HT0 : Hid (Below w.heap.size w w) := Lib.hid (Below.refl _ _)
      go_wp2_with fail
      refine (F.list c s2.zs l2 HG6.out.wz HA2.out.pool.ch p s2.m _ HG6.out).mono ?_
      rintro e wm1 ⟨a3, cap3, rfl, hr3, hf3, hb⟩
      have HG1 := Lib.hid (HG6.out.later hb)
      have HT1 : Hid (Below w.heap.size w wm1) := Lib.hid (below_step HB2.out hb)
      have HR61 := Lib.hid (HR6.out.later hb)
      clear hb
      have HR3 := Lib.hid hr3
      clear hr3 hf3
      have HI : Hid (∀ w', Row w' .i64 a3 (ints l2) → Row w' .i64 a2 (ints l2) → Calls Try.prog 13 #[.slice a3 l2.length cap3, .slice a2 l2.length cap2] w' fun e w'' => e = .returned (.bool true) ∧ Drw w' w'') := Lib.hid (fun w' h1 h2 => by
        have := rcInts_same a3 a2 cap3 cap2 (ints l2) w' h1 h2 (by rw [ints_length]; omega)
        rw [ints_length] at this
        exact this)
      go_wp2_with fail
      refine (HI.out _ HR3.out HR61.out).mono ?_
      rintro e wm2 ⟨rfl, hd⟩
      have HG2 := Lib.hid (HG1.out.drw hd)
      have HT2 : Hid (Below w.heap.size w wm2) := Lib.hid (below_step HT1.out hd.new)
      have HR62 := Lib.hid (HR61.out.drw hd)
      clear hd
      go_wp2_with fail
      go_roundw
      case rel => exact ⟨k + 1, by omega, by go_num, l2, s2, a2, cap2, rfl, ⟨HG2.out, HA2.out.pool, HR62.out, HA2.out.o, HA2.out.hN⟩, HT2.out⟩
      case measure => simp [intOf]; omega
    · clear hA hbel
      go_wp2_with fail
      refine (begun10_any F _).mono ?_
      rintro e w9 ⟨rfl, hb⟩
      have HB9 := Lib.hid (below_step HBe.out hb)
      clear hb
      go_wp2_with fail
      go_ret
      exact ⟨rfl, HB9.out⟩

theorem poolPlays_any (F : PoolFns) (n v r k : Int) (a : Option Addr) (cap : Nat) (rs : List (List Fld)) (w : World) (hrs : Recs w a pks rs) (hm : rs.length ≤ maxLen) :
    Calls Try.prog 3 #[.agg #[.int .i64 n, .int .i64 v, .int .i64 r, .int .i64 k], .slice a rs.length cap] w fun e w' => e = .returned (.bool true) ∧ Below w.heap.size w w' := by
  cases h : mayB n v r k with
  | false => exact poolPlays_no F n v r k a cap _ w h
  | true =>
    obtain ⟨c, hc, rfl, rfl, rfl, rfl⟩ := cf_ofC h
    cases hb : littleB c.N c.W c.R with
    | false => exact poolPlays_big F c a cap _ w hc (.inl hb) hm
    | true =>
      by_cases hl : 200 < (rs.length : Int)
      · exact poolPlays_big F c a cap _ w hc (.inr hl) hm
      · exact poolPlays_few F c a cap rs w hc hb (by omega) hrs

end Go.Proofs.Ytgfpcamgebnfmaa.Pk
