/-
  Texts laid together: GravGrown, GravEndF.
-/
import Derived.Test.YtljdbaddockfcaaGreatGraveLawEtc
import Derived.Test.YtljdbaddockfcaaGreatObjWholeF
import Derived.Test.YtljdbaddockfcaaGreatRecs
/-
  Layer 14: a ground with objects, as many as fit, and edges between them, each counted.
-/
namespace Go.Proofs.YtljdbaddockfcaaGreat.Pk
open Go.RowKit
set_option linter.unusedVariables false
set_option linter.unusedSimpArgs false
set_option maxRecDepth 100000

theorem ged_of {w : World} {a : Option Addr} {rs : List (List Fld)} (hr : Recs w a [.int .u8, .int .u8, .int .u8] rs) {k : Nat} (hk : k < rs.length) :
    ∃ (b off : Nat) (x y z : Nat), a = some ⟨b, off, none⟩ ∧ b < w.heap.size ∧ w.cell? ⟨b, off + k * 3, none⟩ = some (.int .u8 (x : Int)) ∧ w.cell? ⟨b, off + k * 3 + 1, none⟩ = some (.int .u8 (y : Int)) ∧ w.cell? ⟨b, off + k * 3 + 2, none⟩ = some (.int .u8 (z : Int)) ∧ x < 256 ∧ y < 256 ∧ z < 256 := by
  obtain ⟨h1, b, off, ha, hb, hc⟩ := hr k rs[k] (by simp [hk])
  generalize rs[k] = r at h1 hc
  have hl : r.length = 3 := by have := congrArg List.length h1; simpa using this
  match r, hl with
  | [f0, f1, f2], _ =>
    simp at h1
    obtain ⟨k0, k1, k2⟩ := h1
    have c0 := hc 0 f0 rfl
    have c1 := hc 1 f1 rfl
    have c2 := hc 2 f2 rfl
    cases f0 with
    | bool b0 => cases k0
    | ints k2 a2 c2 z2 => cases k0
    | int k5 x =>
      cases f1 with
      | bool b0 => cases k1
      | ints k3 a2 c2 z2 => cases k1
      | int k6 y =>
        cases f2 with
        | bool b0 => cases k2
        | ints k3 a2 c2 z2 => cases k2
        | int k7 z =>
          cases k0
          cases k1
          cases k2
          have w0 := c0.2
          have w1 := c1.2
          have w2 := c2.2
          simp [Fld.ok, Lit.wf, IntKind.min, IntKind.max, IntKind.bits, IntKind.signed] at w0 w1 w2
          refine ⟨b, off, x.toNat, y.toNat, z.toNat, ha, hb, ?_, ?_, ?_, by omega, by omega, by omega⟩
          · rw [show ((x.toNat : Nat) : Int) = x by omega]; exact c0.1
          · rw [show ((y.toNat : Nat) : Int) = y by omega]; exact c1.1
          · rw [show ((z.toNat : Nat) : Int) = z by omega]; exact c2.1

section
variable {c : Cf} {D : Wd} {x y : Int} {w wr : World} {p : Pl} {N k : Nat}
theorem RSt.gro (h : RSt w p c (D.mkD x y) wr) (G : Gro c.N D k) : Gro c.N (D.mkD x y) k := by
  obtain ⟨zs, m, hG, hR, _⟩ := h
  unfold Wd.mkD at hR ⊢
  split
  · rename_i h0
    rw [if_pos h0] at hR
    exact G.made hR hG.may
  · exact G
theorem mk_refs (h0 : D.mkE x y = 0) : (D.mkD x y).allR = D.allR ++ [D.mkR x y] := by
  unfold Wd.mkD Wd.mkR Wd.allR
  rw [if_pos h0, if_pos h0]
  show (D.ts ++ [_]).map _ = _
  rw [List.map_append]
  rfl
theorem RSt.sizes (h : RSt w p c D wr) : ∀ t, t ∈ D.live → t.pt.length ≤ 100000 := fun t ht => by
  obtain ⟨zs, m, hG, hR, _⟩ := h
  have := (hR.sizes hG.wz ht).1
  omega
theorem Gro.in64 (G : Gro N D k) (hN : N ≤ 10000) {j : Nat} (hj : j < D.allR.length) : In64 (nth D.allR j) := by
  obtain ⟨t, ht, e, _⟩ := G.at hj
  have := G.lt t (mem_live.1 ht).1
  rw [e]
  unfold In64
  omega
end
/-- What is known while objects are made. -/
def Gn (w : World) (lo : Nat) (p : Pl) (N k j : Nat) (v : Value) (wr : World) : Prop :=
  ∃ D, RSt w p (cfR N) D wr ∧ Gro N D k ∧ D.allR.length ≤ j ∧ wr.ownsRow lo 3 1 v D.allR.length (D.allR.map (Value.int .i64)) ∧ lo ≤ wr.heap.size
theorem Gn.later {w wr w' : World} {lo : Nat} {p : Pl} {N k j : Nat} {v : Value} (h : Gn w lo p N k j v wr) (hb : Below wr.heap.size wr w') : Gn w lo p N k j v w' := by
  obtain ⟨D, h1, h2, h3, h4, h5⟩ := h
  exact ⟨D, h1.later hb, h2, h3, own_touch h4 (Touch.of_below (X := fun _ => False) hb) (fun _ _ h => h), Nat.le_trans h5 hb.size⟩
set_option maxHeartbeats 4000000 in
theorem grown_any (n : Nat) (hn : n < 256) (a : Option Addr) (cap : Nat) (rs : List (List Fld)) (b : Option Addr) (capb : Nat) (es : List (List Fld)) (w : World) (h1 : rs.length ≤ 30) (h2 : es.length ≤ 200) (hr : Recs w a [.int .i64, .int .i64] rs) (he : Recs w b [.int .u8, .int .u8, .int .u8] es) :
    Calls Tryz.prog 10 #[.int .u8 (n : Int), .slice a rs.length cap, .slice b es.length capb] w fun e w' => ∃ p lo v, e = .returned (.tuple #[.pointer (some ⟨Pl.a p, 0, none⟩), v, .bool true]) ∧ Gn w lo p (n % 60 + 4) es.length rs.length v w' ∧ (∀ i, lo ≤ i → ¬ ofG p i) ∧ w.heap.size ≤ lo := by
  obtain ⟨i0, hi, hz0, hz1, hz2⟩ := info_parts infoInt
  have HR := Lib.hid hr
  have HE := Lib.hid he
  have HMod : Hid (n % 60 < 60) := Lib.hid (Nat.mod_lt _ (by decide))
  have hq : n % 60 < 60 := HMod.out
  have et : Int.tmod (n : Int) 60 = ((n % 60 : Nat) : Int) := by rw [Int.tmod_eq_emod_of_nonneg (by omega)]; rfl
  obtain ⟨q, hqe⟩ : ∃ q : Nat, q = n % 60 := ⟨_, rfl⟩
  rw [← hqe] at et hq ⊢
  have HO := Lib.hid (fun w : World => openedRW16 poolFns (q + 4) w (by omega) (by omega))
  rw [show (((q + 4 : Nat)) : Int) = (q : Int) + 4 by omega] at HO
  have e256 : Int.tmod (n : Int) 60 % 256 = (q : Int) := by rw [et]; omega
  clear hr he HMod hqe
  go_enter Tryz.func10, Tryz.ntmps10
  go_wp2_with fail
  refine (HO.out _).mono ?_
  rintro e w1 ⟨p, q0, lo0, rfl, h, _, _, hl0, hl1⟩
  have HP : Hid (∀ i, w1.heap.size ≤ i → ¬ ofG p i) := Lib.hid (fun i hi => h.notG hi)
  have HPi : Hid (∀ i, w1.heap.size ≤ i → ¬ inG p i) := Lib.hid (fun i hi hx => h.notG hi (Or.inr hx))
  have HLo : Hid (w.heap.size ≤ w1.heap.size) := Lib.hid h.below.size
  have HG0 : Hid (Gn w w1.heap.size p (q + 4) 0 0 (.slice none 0 0) w1) := Lib.hid ⟨_, h, Gro.new (q + 4) (show 16 ≤ (cfR (q + 4)).W from Nat.le_refl 16), by simp [Wd.allR, Wd.new], World.ownsRow_nil _ _ _ _, Nat.le_refl _⟩
  clear h hl0 hl1
  go_wp2_with fail
  go_loopw [12, 37] (fun v i wr => ∃ k : Nat, k ≤ rs.length ∧ i = .int .i64 (k : Int) ∧ Gn w w1.heap.size p (q + 4) 0 k v wr) (fun _ i _ => rs.length - (intOf i).toNat)
  case atStart => exact ⟨0, Nat.zero_le _, rfl, HG0.out⟩
  case round =>
    obtain ⟨k, hk, rfl, D, hS, hGr, hLn, hown, hsz⟩ := hrel
    have HS := Lib.hid hS
    have HGr := Lib.hid hGr
    have HSz := Lib.hid hsz
    by_cases hlt : k < rs.length
    · obtain ⟨b1, off, x0, y0, rfl, hb0, c0, c1⟩ := osz_of HR.out hlt
      have d0 := (hS.below.cell (p := ⟨b1, off + k * 2, none⟩) hb0).trans c0
      have d1 := (hS.below.cell (p := ⟨b1, off + k * 2 + 1, none⟩) hb0).trans c1
      have HS1 := Lib.hid (hS.later (below_new wr (.cells #[.int .i64 x0, .int .i64 y0] 46)))
      have HO1 := Lib.hid (hown.alloc (.cells #[.int .i64 x0, .int .i64 y0] 46))
      have HZ1 : Hid (w1.heap.size ≤ (wr.alloc (.cells #[.int .i64 x0, .int .i64 y0] 46)).heap.size) := Lib.hid (by simp; omega)
      clear hS hGr hown hsz c0 c1 hb0
      go_wp2_with fail
      refine (make_does objFns (cfR (q + 4)) D x0 y0 HS1.out).mono ?_
      rintro e w3 ⟨rfl, h3, hT⟩
      have HO3 := Lib.hid (own_touch HO1.out hT HPi.out)
      have HZ3 : Hid (w1.heap.size ≤ w3.heap.size) := Lib.hid (Nat.le_trans HZ1.out hT.size)
      have HGr3 : Hid (Gro (q + 4) (D.mkD x0 y0) 0) := Lib.hid (h3.gro HGr.out)
      clear hT d0 d1
      by_cases hE : D.mkE x0 y0 = 0
      · have HRf := Lib.hid (mk_refs hE)
        have hlen : (D.mkD x0 y0).allR.length = D.allR.length + 1 := by rw [HRf.out]; simp
        obtain ⟨t, htl, hte, hfd⟩ := HGr3.out.at (j := D.allR.length) (by omega)
        have hnr : nth (D.mkD x0 y0).allR D.allR.length = D.mkR x0 y0 := by rw [HRf.out]; unfold nth; simp
        rw [hnr] at hfd hte
        have h64 : In64 (D.mkR x0 y0) := by rw [← hnr]; exact HGr3.out.in64 (by omega) (by omega)
        have HD := Lib.hid ((tintFns.dye (cfR (q + 4)) (D.mkD x0 y0) (D.mkR x0 y0) h64).as (vb (show ((D.mkD x0 y0).find (D.mkR x0 y0)).isSome = true by rw [hfd]; rfl)) rfl)
        have HS3 := Lib.hid h3
        have HGr4 := Lib.hid (HGr3.out.dye (D.mkR x0 y0))
        have HA4 : Hid (((D.mkD x0 y0).dye (D.mkR x0 y0)).allR = D.allR ++ [D.mkR x0 y0]) := Lib.hid ((refs_hd (mark_hd _ _)).trans HRf.out)
        rw [hE]
        generalize D.mkR x0 y0 = r1 at *
        generalize (D.mkD x0 y0).dye r1 = D4 at *
        clear h3 hfd hte htl h64 hnr hlen hE
        go_wp2_with fail
        refine (HS3.out.does HD.out).mono ?_
        rintro e w4 ⟨rfl, h4, hT⟩
        have HS4 := Lib.hid h4
        have HZ4 : Hid (w1.heap.size ≤ w4.heap.size) := Lib.hid (Nat.le_trans HZ3.out hT.size)
        have hown := own_touch HO3.out hT HPi.out
        have HO4 := Lib.hid hown
        clear h4 hT
        go_wp2_with (at_builtin; refine wpList_append_own _ rfl _ _ 27 rfl w1.heap.size 3 i0 (.int .i64 0) 1 8 Tryz.underlying27 hi hz0 hz1 hz2 rfl (by decide) _ _ _ rfl (hown.alloc _) ⟨w4.heap.size, 0, none⟩ 1 1 [.int .i64 r1] rfl rfl ?c1 ?c2 ?c3 ?c4 ?c5 ?c6)
        case c1 => exact cell_one_new w4 _ _
        case c2 => intro u hu; simp at hu; subst hu; rfl
        case c3 => unfold maxLen; omega
        case c4 => omega
        case c5 => have := HZ4.out; simp; omega
        case c6 =>
          intro v' w6 hown' hgrow _
          have hown6 : w6.ownsRow w1.heap.size 3 1 v' D4.allR.length (D4.allR.map (Value.int .i64)) := by rw [HA4.out]; simpa using hown'
          have hbel6 : Below w1.heap.size w4 w6 := ((Below.refl w1.heap.size w4).alloc HZ4.out (.cells #[.int .i64 r1] 3)).grown hgrow (by have := HZ4.out; simp; omega) (owns_block HO4.out)
          have hT6 : Touch (fun i => w1.heap.size ≤ i) w4 w6 := ⟨hbel6.os, hbel6.tape, hbel6.output, hbel6.size, fun j hj hx => hbel6.block j (by omega)⟩
          have HGn : Hid (Gn w w1.heap.size p (q + 4) 0 (k + 1) v' w6) := Lib.hid ⟨D4, HS4.out.touch hT6 (fun i hi hx => HP.out i hx hi) (fun i hi => Nat.le_trans HLo.out hi), HGr4.out, by rw [HA4.out]; simp; omega, hown6, Nat.le_trans HZ4.out hbel6.size⟩
          clear hown' hgrow hown hown6 hbel6 hT6
          go_wp2_with fail
          go_roundw
          case rel => exact ⟨k + 1, by omega, by go_num, HGn.out⟩
          case measure => simp [intOf]; omega
      · have eD : D.mkD x0 y0 = D := by unfold Wd.mkD; rw [if_neg hE]
        rw [eD] at h3
        have HGn : Hid (Gn w w1.heap.size p (q + 4) 0 (k + 1) _ w3) := Lib.hid ⟨D, h3, HGr.out, by omega, HO3.out, HZ3.out⟩
        have hEb : (D.mkE x0 y0 == 0) = false := by rw [beq_eq_false_iff_ne]; exact hE
        generalize D.mkE x0 y0 = E at *
        generalize D.mkR x0 y0 = r1 at *
        clear h3 hE eD
        go_wp2_with fail
        go_roundw
        case rel => exact ⟨k + 1, by omega, by go_num, HGn.out⟩
        case measure => simp [intOf]; omega
    · obtain ⟨L, hLe⟩ : ∃ L, L = D.allR := ⟨_, rfl⟩
      rw [← hLe] at hown
      have hL30 : L.length ≤ 30 := by rw [hLe]; omega
      have HOw := Lib.hid hown
      have hob := owns_block hown
      obtain ⟨a9, c9, rfl, hr9⟩ := OwnR.of_owns hown
      have HR9 := Lib.hid hr9.row
      have HX9 : Hid (RowOut (inG p) a9 L) := Lib.hid (fun _ b off e hx => HPi.out b (hob b (by rw [e]; rfl)) hx)
      have HD0 : Hid (∃ D, RSt w p (cfR (q + 4)) D wr ∧ Gro (q + 4) D 0 ∧ D.allR = L) := Lib.hid ⟨D, hS, hGr, hLe.symm⟩
      have HLn : Hid (L.length ≤ rs.length) := Lib.hid (by rw [hLe]; omega)
      clear hS hGr hown hsz hob hr9 hLe hLn
      go_wp2_with fail
      generalize hw3 : wr = w3 at *
      clear hw3
      go_loopw [64] (fun i wr => ∃ k : Nat, k ≤ es.length ∧ i = .int .i64 (k : Int) ∧ (∃ D, RSt w p (cfR (q + 4)) D wr ∧ Gro (q + 4) D k ∧ D.allR = L) ∧ Touch (inG p) w3 wr) (fun i _ => es.length - (intOf i).toNat)
      case atStart => exact ⟨0, Nat.zero_le _, rfl, HD0.out, Touch.refl _ _⟩
      case round =>
        obtain ⟨k, hk, rfl, ⟨D, hS, hGr, hDL⟩, hT⟩ := hrel
        have HS := Lib.hid hS
        have HGr := Lib.hid hGr
        have HDL := Lib.hid hDL
        have HT := Lib.hid hT
        have HGn : Hid (Gn w w1.heap.size p (q + 4) es.length rs.length (.slice a9 L.length c9) wr) := Lib.hid ⟨D, hS, hGr.more hk, by rw [hDL]; exact HLn.out, by rw [hDL]; exact own_touch HOw.out hT HPi.out, Nat.le_trans HSz.out hT.size⟩
        by_cases hlt : k < es.length
        · obtain ⟨b1, off, x0, x1, x2, rfl, hb0, c0, c1, c2, k0, k1, k2⟩ := ged_of HE.out hlt
          have d0 := (hS.below.cell (p := ⟨b1, off + k * 3, none⟩) hb0).trans c0
          have d1 := (hS.below.cell (p := ⟨b1, off + k * 3 + 1, none⟩) hb0).trans c1
          have d2 := (hS.below.cell (p := ⟨b1, off + k * 3 + 2, none⟩) hb0).trans c2
          by_cases hn0 : L.length = 0
          · rw [hn0] at HGn ⊢
            clear hS hGr hDL hT c0 c1 c2 hb0
            go_wp2_with fail
            go_ret3
            exact ⟨p, w1.heap.size, _, rfl, HGn.out.later (below_new _ _), HP.out, HLo.out⟩
          · have hnb : ((L.length : Int) == 0) = false := by rw [beq_eq_false_iff_ne]; omega
            obtain ⟨t1, et1, ht1⟩ : ∃ t : Nat, Int.tmod (x0 : Int) (L.length : Int) = (t : Int) ∧ t < L.length := ⟨x0 % L.length, by rw [Int.tmod_eq_emod_of_nonneg (by omega)]; rfl, Nat.mod_lt _ (by omega)⟩
            obtain ⟨t2, et2, ht2⟩ : ∃ t : Nat, Int.tmod (x2 : Int) (L.length : Int) = (t : Int) ∧ t < L.length := ⟨x2 % L.length, by rw [Int.tmod_eq_emod_of_nonneg (by omega)]; rfl, Nat.mod_lt _ (by omega)⟩
            obtain ⟨u1, hu1, eu1, hf1⟩ := hGr.at (j := t1) (by rw [hDL]; exact ht1)
            obtain ⟨u2, hu2, eu2, hf2⟩ := hGr.at (j := t2) (by rw [hDL]; exact ht2)
            rw [hDL] at hf1 hf2
            have hbn := below_new wr (.cells #[.int .u8 (x0 : Int), .int .u8 (x1 : Int), .int .u8 (x2 : Int)] 69)
            have hRw := (HR9.out.touch hT HX9.out).later hbn
            obtain ⟨b9, o9, rfl, hb9, hc9⟩ := hRw t1 ht1
            obtain ⟨b9', o9', e9, hb9', hc9'⟩ := hRw t2 ht2
            cases e9
            have HS1 := Lib.hid (hS.later hbn)
            have HBn := Lib.hid (Blk.new wr #[.int .u8 (x0 : Int), .int .u8 (x1 : Int), .int .u8 (x2 : Int)] 69)
            have HNo : Hid (¬ inG p wr.heap.size) := Lib.hid (fun hx => hS.notG (Nat.le_refl _) (Or.inr hx))
            have HT1 : Hid (Touch (inG p) w3 (wr.alloc (.cells #[.int .u8 (x0 : Int), .int .u8 (x1 : Int), .int .u8 (x2 : Int)] 69))) := Lib.hid (hT.alloc _)
            have hd1 := hGr.alive hu1
            have hd2 := hGr.alive hu2
            have HP1 := Lib.hid (gd_ptr (c := cfR (q + 4)) hGr.san hf1 hd1 x1)
            have hrf : u2.mr.refs ≤ 200 := by
              have h1 := hGr.nam.cnt u2 hu2
              have h2 := hGr.bd ((u2.h : Int) + 1) (by omega)
              omega
            have HF1 := Lib.hid hf1
            have HF2 := Lib.hid hf2
            have HU2 := Lib.hid hu2
            have HRf := Lib.hid hrf
            have HD1 := Lib.hid hd1
            generalize nth L t1 = r1 at *
            generalize nth L t2 = r2 at *
            clear hS hGr hDL hT c0 c1 c2 hb0 hbn hRw hb9' hu1 hu2 eu1 eu2 hf1 hf2 hd1 hd2 hrf
            go_wp2_with fail
            generalize hv1 : wr.alloc _ = v1 at *
            generalize hn1 : wr.heap.size = n1 at *
            have m0 := HBn.out.cell 0 rfl
            have m1 := HBn.out.cell 1 rfl
            have m2 := HBn.out.cell 2 rfl
            clear hv1
            go_quiet (fail)
            go_wp2_with fail
            refine ((HS1.out.drw ⟨_, rfl⟩).does HP1.out).mono ?_
            rintro e v2 ⟨rfl, hS2, hT2⟩
            have HS2 := Lib.hid hS2
            have HT2 := Lib.hid (HT1.out.trans hT2.undrewN)
            have HB2 := Lib.hid (HBn.out.touch hT2.undrewN HNo.out)
            clear hS2 hT2 m0 m1 m2 hc9 hc9'
            by_cases hi1 : x1 < u1.pt.length
            · rw [if_pos hi1]
              by_cases h0 : nth u1.pt x1 = 0
              · rw [h0]
                have m1 := HB2.out.cell 1 rfl
                have HP2 := Lib.hid (gd_setptr (c := cfR (q + 4)) HGr.out.san HF1.out HD1.out hi1 HF2.out)
                have HG3 := Lib.hid (HGr.out.tie HF1.out hi1 h0 HF2.out)
                have hfd : ∃ u3, (D.setP r1 x1 r2).find r2 = some u3 ∧ u3.mr = u2.mr := by
                  rw [setP_find, HF2.out]
                  by_cases e : u2.at r1 = true
                  · exact ⟨{ u2 with pt := u2.pt.set x1 r2 }, by simp [e], rfl⟩
                  · exact ⟨u2, by simp [e], rfl⟩
                obtain ⟨u3, hf3, em3⟩ := hfd
                have HP3 := Lib.hid (gd_up (c := cfR (q + 4)) hf3 (by rw [em3]; have := HRf.out; omega))
                have HA3 : Hid (((D.setP r1 x1 r2).up r2).allR = L) := Lib.hid ((refs_hd ((mark_hd _ _).trans (setP_hd _ _ _))).trans HDL.out)
                clear h0 hf3 em3
                go_wp2_with fail
                refine (HS2.out.does HP2.out).mono ?_
                rintro e v3 ⟨rfl, hS3, hT3⟩
                have HS3 := Lib.hid hS3
                have HT3 := Lib.hid (HT2.out.trans hT3)
                clear hS3 hT3
                go_wp2_with fail
                refine (HS3.out.does HP3.out).mono ?_
                rintro e v4 ⟨rfl, hS4, hT4⟩
                have HS4 := Lib.hid hS4
                have HT4 := Lib.hid (HT3.out.trans hT4)
                clear hS4 hT4
                go_wp2_with fail
                go_roundw
                case rel => exact ⟨k + 1, by omega, by go_num, ⟨_, HS4.out, HG3.out, HA3.out⟩, HT4.out⟩
                case measure => simp [intOf]; omega
              · have h0b : (nth u1.pt x1 == 0) = false := by rw [beq_eq_false_iff_ne]; exact h0
                generalize nth u1.pt x1 = old at *
                clear h0
                go_wp2_with fail
                go_roundw
                case rel => exact ⟨k + 1, by omega, by go_num, ⟨D, HS2.out, HGr.out.more (by omega), HDL.out⟩, HT2.out⟩
                case measure => simp [intOf]; omega
            · rw [if_neg hi1]
              go_wp2_with fail
              go_roundw
              case rel => exact ⟨k + 1, by omega, by go_num, ⟨D, HS2.out, HGr.out.more (by omega), HDL.out⟩, HT2.out⟩
              case measure => simp [intOf]; omega
        · clear hS hGr hDL hT
          go_wp2_with fail
          go_ret3
          exact ⟨p, w1.heap.size, _, rfl, HGn.out, HP.out, HLo.out⟩
end Go.Proofs.YtljdbaddockfcaaGreat.Pk

/-
  Layer 14: steps come to an end; then nothing is pending, and who is left is named as often as its count says.
-/
namespace Go.Proofs.YtljdbaddockfcaaGreat.Pk
open Go.RowKit
set_option linter.unusedVariables false
set_option linter.unusedSimpArgs false
set_option maxRecDepth 100000

section
variable {D : Wd} {c : Cf} {w wr : World} {p : Pl} {N k : Nat} {L : List Int} {r : Int} {t : Th}
theorem San.alive0 (S : San D) (hg : D.grave = []) : ∀ t, t ∈ D.live → t.mr.dead = false := fun t ht => by
  cases h : t.mr.dead with
  | false => rfl
  | true => have := (S.ok t ht).iff_.1 h; rw [hg] at this; simp at this
theorem San.pend0 (S : San D) (hg : D.grave = []) : D.pending = 0 := by
  rw [S.pend, sumL_none (φ := pendT) (fun t ht => by unfold pendT; rw [S.alive0 hg t ht]; simp)]
  rfl
theorem RSt.inlo (h : RSt w p c D wr) : ∀ k, inG p k → w.heap.size ≤ k := by obtain ⟨zs, m, _, _, hp, _⟩ := h; exact hp
/-- What stays true while the dead are let go. -/
structure Fin1 (L : List Int) (D : Wd) : Prop where
  san : San D
  nam : Nam (fun _ => 0) D
  nd : (D.ts.map Th.h).Nodup
  refs : D.allR = L
theorem Gro.fin (G : Gro N D k) : Fin1 D.allR D := ⟨G.san, G.nam, G.nd, rfl⟩
theorem Fin1.inter (F : Fin1 L D) (x : Int) : Fin1 L (D.inter x) := ⟨F.san.inter x, F.nam.inter F.san x, by rw [inter_hd]; exact F.nd, (refs_hd (inter_hd x)).trans F.refs⟩
theorem Fin1.step (F : Fin1 L D) : Fin1 L D.step := ⟨F.san.step, F.nam.step F.san, by rw [step_hd]; exact F.nd, (refs_hd step_hd).trans F.refs⟩
theorem Fin1.sum (F : Fin1 L D) (φ : Th → Nat) : sumK (atD φ D) L L.length = sumL φ D.ts := by rw [← F.refs]; exact sum_refs F.nd φ
theorem Fin1.named (F : Fin1 L D) (hf : D.find r = some t) : D.cnt r = ((sumK (atD (nmT r) D) L L.length : Nat) : Int) := by
  obtain ⟨htl, e⟩ := find_live hf
  rw [F.sum]
  unfold Wd.cnt
  rw [hf, ← e]
  show t.mr.refs = _
  rw [F.nam.cnt t htl]
  simp
end
set_option maxHeartbeats 4000000 in
theorem graveEnds_few (n : Nat) (hn : n < 256) (a : Option Addr) (cap : Nat) (rs : List (List Fld)) (b : Option Addr) (capb : Nat) (es : List (List Fld)) (d : Option Addr) (capd : Nat) (ks : List Int) (w : World) (h1 : rs.length ≤ 30) (h2 : es.length ≤ 200) (h3 : ks.length ≤ 100)
    (hr : Recs w a [.int .i64, .int .i64] rs) (he : Recs w b [.int .u8, .int .u8, .int .u8] es) (hks : Row w .u8 d ks) (hkk : Kinds ks) :
    Calls Tryz.prog 3 #[.int .u8 (n : Int), .slice a rs.length cap, .slice b es.length capb, .slice d ks.length capd] w fun e w' => e = .returned (.bool true) ∧ Below w.heap.size w w' := by
  have g1 : ¬ 30 < (rs.length : Int) := by omega
  have g2 : ¬ 200 < (es.length : Int) := by omega
  have g3 : ¬ 100 < (ks.length : Int) := by omega
  have hfc0 := cfield0 (((n % 60 + 4 : Nat)) : Int) 16 1 1
  have hfc1 := cfield1 (((n % 60 + 4 : Nat)) : Int) 16 1 1
  have HR := Lib.hid hr
  have HE := Lib.hid he
  have HKS := Lib.hid hks
  have HKK := Lib.hid hkk
  have HN63 : Hid (n % 60 + 4 ≤ 63) := Lib.hid (by have := Nat.mod_lt n (show 0 < 60 by decide); omega)
  have HGw := Lib.hid (grown_any n hn a cap rs b capb es w h1 h2 hr he)
  clear hr he hks hkk
  generalize n % 60 + 4 = N at *
  have hN63 : N ≤ 63 := HN63.out
  go_enter Tryz.func3, Tryz.ntmps3
  go_wp2_with fail
  refine HGw.out.mono ?_
  rintro e w1 ⟨p, lo, v, rfl, ⟨D, hS, hGr, hLn, hown, hsz⟩, hP, hlo⟩
  have hin : ∀ j, j < D.allR.length → In64 (nth D.allR j) := fun j hj => hGr.in64 (by omega) hj
  have hF := hGr.fin
  obtain ⟨L, hLe⟩ : ∃ L, L = D.allR := ⟨_, rfl⟩
  rw [← hLe] at hown hin hF hLn
  have hL30 : L.length ≤ 30 := by omega
  have hob := owns_block hown
  obtain ⟨a9, c9, rfl, hr9⟩ := OwnR.of_owns hown
  have HR9 := Lib.hid hr9.row
  have HX9 : Hid (RowOut (inG p) a9 L) := Lib.hid (fun _ b off e hx => hP b (hob b (by rw [e]; rfl)) (Or.inr hx))
  have HIn := Lib.hid hin
  have HK1 : Hid (Row w1 .u8 d ks) := Lib.hid (HKS.out.below hS.below (Nat.le_refl _))
  have HXk : Hid (RowOut (inG p) d ks) := Lib.hid (HKS.out.out hS.inlo)
  have HF0 : Hid (∃ D, RSt w p (cfR N) D w1 ∧ Fin1 L D) := Lib.hid ⟨D, hS, hF⟩
  clear hS hGr hLn hown hsz hP hlo hin hF hLe hob hr9 HGw
  go_wp2_with fail
  go_loopw [44] (fun i wr => ∃ k : Nat, k ≤ ks.length ∧ i = .int .i64 (k : Int) ∧ (∃ D, RSt w p (cfR N) D wr ∧ Fin1 L D) ∧ Touch (inG p) w1 wr) (fun i _ => ks.length - (intOf i).toNat)
  case atStart => exact ⟨0, Nat.zero_le _, rfl, HF0.out, Touch.refl _ _⟩
  case round =>
    obtain ⟨k, hk, rfl, ⟨D, hS, hF⟩, hT⟩ := hrel
    have HS := Lib.hid hS
    have HF := Lib.hid hF
    have HT := Lib.hid hT
    by_cases hlt : k < ks.length
    · have hkx := HKK.out k
      obtain ⟨bk, ok, rfl, hbk, hck⟩ := (HK1.out.touch hT HXk.out) k hlt
      obtain ⟨x, hx⟩ : ∃ x : Nat, nth ks k = (x : Int) := ⟨(nth ks k).toNat, by omega⟩
      rw [hx] at hck hkx
      by_cases hn0 : L.length = 0
      · have hg : ¬ (0 : Int) < (L.length : Int) := by omega
        clear hS hF hT hx
        go_wp2_with fail
        go_roundw
        case rel => exact ⟨k + 1, by omega, by go_num, ⟨D, HS.out, HF.out⟩, HT.out⟩
        case measure => simp [intOf]; omega
      · have hg : (0 : Int) < (L.length : Int) := by omega
        have hnb : ((L.length : Int) == 0) = false := by rw [beq_eq_false_iff_ne]; omega
        obtain ⟨t, et, ht⟩ : ∃ t : Nat, Int.tmod (x : Int) (L.length : Int) = (t : Int) ∧ t < L.length := ⟨x % L.length, by rw [Int.tmod_eq_emod_of_nonneg (by omega)]; rfl, Nat.mod_lt _ (by omega)⟩
        obtain ⟨b9, o9, rfl, hb9, hc9⟩ := (HR9.out.touch hT HX9.out) t ht
        have hpb := hS.pendBd hF.san
        have HI := Lib.hid (gd_inter (c := cfR N) (D := D) (HIn.out t ht) hpb.1 hpb.2)
        have HF2 := Lib.hid (hF.inter (nth L t))
        generalize nth L t = r at *
        clear hS hF hT hx hpb
        go_wp2_with fail
        refine (HS.out.does HI.out).mono ?_
        rintro e w2 ⟨rfl, hS2, hT2⟩
        have HS2 := Lib.hid hS2
        have HT2 := Lib.hid (HT.out.trans hT2)
        clear hS2 hT2
        go_wp2_with fail
        go_roundw
        case rel => exact ⟨k + 1, by omega, by go_num, ⟨_, HS2.out, HF2.out⟩, HT2.out⟩
        case measure => simp [intOf]; omega
    · have HW0 : Hid (∃ D, RSt w p (cfR N) D wr ∧ Fin1 L D ∧ 0 + sumL wtT D.ts ≤ N * 17) := Lib.hid ⟨D, hS, hF, by
        have h1 := hF.san.wt_le
        have h2 := hS.total hF.san
        have h3 : D.w = 16 := by
          obtain ⟨zs, m, _, hR, _⟩ := hS
          exact hR.w
        have h4 : (cfR N).N = N := rfl
        rw [h3] at h1
        have h5 : sumL occT D.ts * (16 + 1) ≤ N * 17 := Nat.mul_le_mul_right 17 (by omega)
        omega⟩
      clear hS hF
      go_wp2_with fail
      generalize hw3 : wr = w3 at *
      clear hw3
      go_loopw [14] (fun x wr => ∃ k : Nat, x = .int .i64 (k : Int) ∧ (∃ D, RSt w p (cfR N) D wr ∧ Fin1 L D ∧ k + sumL wtT D.ts ≤ N * 17) ∧ Touch (inG p) w1 wr) (fun x _ => N * 17 + 1 - (intOf x).toNat)
      case atStart => exact ⟨0, rfl, HW0.out, HT.out⟩
      case round =>
        obtain ⟨k, rfl, ⟨D, hS, hF, hwt⟩, hT⟩ := hrel
        have HS := Lib.hid hS
        have HF := Lib.hid hF
        have HT := Lib.hid hT
        cases hg : D.grave with
        | cons g rest =>
          have hw2 := hF.san.step_wt (by rw [hg]; simp)
          have HW2 : Hid (k + 1 + sumL wtT D.step.ts ≤ N * 17) := Lib.hid (by omega)
          have hk17 : k + 1 ≤ N * 17 := by omega
          have h17 : ¬ ((N : Int) * 17 < (k : Int) + 1) := by omega
          have l17 : IntKind.i64.wrap ((N : Int) * 17) = (N : Int) * 17 := IntWalk.i64_in _ (by omega)
          have HStp := Lib.hid ((gd_Step (c := cfR N) hF.san).as (vb (show (!D.grave.isEmpty) = true by rw [hg]; rfl)) rfl)
          have HF2 := Lib.hid hF.step
          clear hS hF hT hwt hw2 hg
          go_wp2_with fail
          refine (HS.out.does HStp.out).mono ?_
          rintro e w4 ⟨rfl, hS4, hT4⟩
          have HS4 := Lib.hid hS4
          have HT4 := Lib.hid (HT.out.trans hT4)
          clear hS4 hT4
          go_wp2_with fail
          refine HS4.out.conf.mono ?_
          rintro e w5 ⟨rfl, hb⟩
          have HS5 := Lib.hid (HS4.out.later hb)
          have HT5 := Lib.hid (HT4.out.trans (Touch.of_below hb))
          clear hb
          go_wp2_with fail
          refine HS5.out.conf.mono ?_
          rintro e w6 ⟨rfl, hb⟩
          have HS6 := Lib.hid (HS5.out.later hb)
          have HT6 := Lib.hid (HT5.out.trans (Touch.of_below hb))
          clear hb
          go_wp2_with fail
          go_roundw
          case rel => exact ⟨k + 1, by go_num, ⟨_, HS6.out, HF2.out, HW2.out⟩, HT6.out⟩
          case measure => simp [intOf]; omega
        | nil =>
          have HStp := Lib.hid ((gd_Step (c := cfR N) hF.san).as (vb (show (!D.grave.isEmpty) = false by rw [hg]; rfl)) (show D.step = D by unfold Wd.step; rw [hg]))
          have HAl := Lib.hid (hF.san.alive0 hg)
          have HPd := Lib.hid ((gd_Pending (c := cfR N) (D := D)).as (vi (hF.san.pend0 hg)) rfl)
          have htot := hS.total hF.san
          rw [show (cfR N).N = N from rfl] at htot
          have HTo : Hid (D.clean.length + sumK (atD occT D) L L.length = N) := Lib.hid (by rw [hF.sum]; exact htot)
          have HSzs := Lib.hid hS.sizes
          clear hS hF hT hwt hg htot
          go_wp2_with fail
          refine (HS.out.does HStp.out).mono ?_
          rintro e w4 ⟨rfl, hS4, hT4⟩
          have HS4 := Lib.hid hS4
          have HT4 := Lib.hid (HT.out.trans hT4)
          clear hS4 hT4
          go_wp2_with fail
          go_loopw [15, 78] (fun x i wr => ∃ k m : Nat, k ≤ L.length ∧ m = sumK (atD occT D) L k ∧ x = .int .i64 (m : Int) ∧ i = .int .i64 (k : Int) ∧ RSt w p (cfR N) D wr ∧ Touch (inG p) w1 wr) (fun _ i _ => L.length - (intOf i).toNat)
          case atStart => exact ⟨0, 0, Nat.zero_le _, (sumK_zero _ _).symm, rfl, rfl, HS4.out, HT4.out⟩
          case round =>
            obtain ⟨k, m, hk, hm, rfl, rfl, hS, hT⟩ := hrel
            have HS := Lib.hid hS
            have HT := Lib.hid hT
            have HM := Lib.hid hm
            have hRw := HR9.out.touch hT HX9.out
            by_cases hlt : k < L.length
            · have hsu := sumK_succ (atD occT D) hlt
              have hmx : sumK (atD occT D) L (k + 1) ≤ 63 := by
                have h1 := sumK_le (atD occT D) L (show k + 1 ≤ L.length by omega)
                have h2 := HTo.out
                omega
              obtain ⟨b9, o9, e9, hb9, hc9⟩ := hRw k hlt
              have h64 := HIn.out k hlt
              cases hf : D.find (nth L k) with
              | none =>
                have HI := Lib.hid ((gd_is (c := cfR N) (D := D) h64).as (vb (show (D.find (nth L k)).isSome = false by rw [hf]; rfl)) rfl)
                have HM2 : Hid (m = sumK (atD occT D) L (k + 1)) := Lib.hid (by rw [hsu, show atD occT D (nth L k) = 0 by unfold atD; rw [hf], hm]; rfl)
                subst e9
                generalize nth L k = r at *
                clear hS hT hm hRw hsu hmx hf
                go_wp2_with fail
                refine (HS.out.does HI.out).mono ?_
                rintro e w5 ⟨rfl, hS5, hT5⟩
                have HS5 := Lib.hid hS5
                have HT5 := Lib.hid (HT.out.trans hT5)
                clear hS5 hT5
                go_wp2_with fail
                go_roundw
                case rel => exact ⟨k + 1, m, by omega, HM2.out, rfl, by go_num, HS5.out, HT5.out⟩
                case measure => simp [intOf]; omega
              | some t =>
                have htl := (find_live hf).1
                have hd := HAl.out t htl
                have hcn := HF.out.named hf
                have hB : sumK (atD (nmT (nth L k)) D) L L.length ≤ 4294967295 := by
                  have h1 : D.cnt (nth L k) = t.mr.refs := by unfold Wd.cnt; rw [hf]
                  have h2 : t.mr.refs ≤ 4294967295 := by
                    obtain ⟨zs, mm, hG, hR, _⟩ := hS
                    exact (hR.refs0 hG.wz htl).2
                  omega
                have HNm : Hid (∀ w5, RSt w p (cfR N) D w5 → Row w5 .i64 a9 L → Calls Tryz.prog 16 #[.pointer (some ⟨p.a, 0, none⟩), .slice a9 L.length c9, .int .i64 (nth L k)] w5 fun e w' => e = .returned (.int .i64 ((sumK (atD (nmT (nth L k)) D) L L.length : Nat) : Int)) ∧ Below w5.heap.size w5 w') := Lib.hid (fun w5 h5 r5 => named_any (cap := c9) HF.out.san HAl.out h5 r5 HIn.out (by omega) HSzs.out (nth L k) hB)
                have HI := Lib.hid ((gd_is (c := cfR N) (D := D) h64).as (vb (show (D.find (nth L k)).isSome = true by rw [hf]; rfl)) rfl)
                have HCn := Lib.hid ((gd_cnt (c := cfR N) (D := D) h64).as (vi hcn) rfl)
                have HDd := Lib.hid ((tintFns.dead (cfR N) D (nth L k) h64).as (vb (show D.dead (nth L k) = false by unfold Wd.dead; rw [hf]; exact hd)) rfl)
                have HBk := Lib.hid (gd_blocks (c := cfR N) hf hd)
                have hat : atD occT D (nth L k) = occT t := by unfold atD; rw [hf]
                have HM2 : Hid (m + occT t = sumK (atD occT D) L (k + 1)) := Lib.hid (by rw [hsu, hat, hm])
                have hmo : m + occT t ≤ 63 := by rw [HM2.out]; exact hmx
                generalize sumK (atD (nmT (nth L k)) D) L L.length = M at *
                generalize occT t = oc at *
                subst e9
                generalize nth L k = r at *
                clear hS hT hm hRw hsu hmx hf hcn hat
                go_wp2_with fail
                refine (HS.out.does HI.out).mono ?_
                rintro e w5 ⟨rfl, hS5, hT5⟩
                have HS5 := Lib.hid hS5
                have HT5 := Lib.hid (HT.out.trans hT5)
                clear hS5 hT5
                go_wp2_with fail
                refine (HS5.out.does HCn.out).mono ?_
                rintro e w6 ⟨rfl, hS6, hT6⟩
                have HS6 := Lib.hid hS6
                have HT6 := Lib.hid (HT5.out.trans hT6)
                clear hS6 hT6
                go_wp2_with fail
                refine (HNm.out w6 HS6.out (HR9.out.touch HT6.out HX9.out)).mono ?_
                rintro e w7 ⟨rfl, hb⟩
                have HS7 := Lib.hid (HS6.out.later hb)
                have HT7 := Lib.hid (HT6.out.trans (Touch.of_below hb))
                clear hb
                go_wp2_with fail
                refine (HS7.out.does HDd.out).mono ?_
                rintro e w8 ⟨rfl, hS8, hT8⟩
                have HS8 := Lib.hid hS8
                have HT8 := Lib.hid (HT7.out.trans hT8)
                clear hS8 hT8
                go_wp2_with fail
                refine (HS8.out.does HBk.out).mono ?_
                rintro e w9 ⟨rfl, hS9, hT9⟩
                have HS9 := Lib.hid hS9
                have HT9 := Lib.hid (HT8.out.trans hT9)
                clear hS9 hT9
                go_wp2_with fail
                go_roundw
                case rel => exact ⟨k + 1, m + oc, by omega, HM2.out, by go_num, by go_num, HS9.out, HT9.out⟩
                case measure => simp [intOf]; omega
            · obtain rfl : k = L.length := by omega
              have hlen : (m : Int) + (D.clean.length : Int) = (N : Int) := by have := HTo.out; omega
              have lw : IntKind.i64.wrap ((m : Int) + (D.clean.length : Int)) = (N : Int) := by rw [hlen]; exact IntWalk.i64_in _ (by omega)
              have HLe := Lib.hid (poolLen poolFns (c := cfR N) (D := D))
              generalize D.clean.length = cl at *
              clear hS hT hm hRw
              go_wp2_with fail
              refine (begun14_any _).mono ?_
              rintro e w5 ⟨rfl, hb⟩
              have HS5 := Lib.hid (HS.out.later hb)
              clear hb
              go_wp2_with fail
              refine (HS5.out.does HPd.out).mono ?_
              rintro e w6 ⟨rfl, hS6, _⟩
              have HS6 := Lib.hid hS6
              clear hS6
              go_wp2_with fail
              refine (HS6.out.does HLe.out).mono ?_
              rintro e w7 ⟨rfl, hS7, _⟩
              have HS7 := Lib.hid hS7
              clear hS7
              go_wp2_with fail
              refine HS7.out.conf.mono ?_
              rintro e w8 ⟨rfl, hb⟩
              have HB8 := Lib.hid (below_step HS7.out.below hb)
              clear hb
              go_wp2_with fail
              go_ret
              exact ⟨rfl, HB8.out⟩
set_option maxHeartbeats 1000000 in
theorem graveEnds_many (n : Value) (a : Option Addr) (cap l1 : Nat) (b : Option Addr) (capb l2 : Nat) (d : Option Addr) (capd l3 : Nat) (w : World) (h : ¬ (l1 ≤ 30 ∧ l2 ≤ 200 ∧ l3 ≤ 100)) :
    Calls Tryz.prog 3 #[n, .slice a l1 cap, .slice b l2 capb, .slice d l3 capd] w fun e w' => e = .returned (.bool true) ∧ Below w.heap.size w w' := by
  by_cases h1 : 30 < (l1 : Int)
  · clear h
    go_enter Tryz.func3, Tryz.ntmps3
    go_wp2_with fail
    refine (begun14_any _).mono ?_
    rintro e w1 ⟨rfl, hb⟩
    go_wp2_with fail
    go_ret
    exact ⟨rfl, hb⟩
  · by_cases h2 : 200 < (l2 : Int)
    · clear h
      go_enter Tryz.func3, Tryz.ntmps3
      go_wp2_with fail
      refine (begun14_any _).mono ?_
      rintro e w1 ⟨rfl, hb⟩
      go_wp2_with fail
      go_ret
      exact ⟨rfl, hb⟩
    · have h3 : 100 < (l3 : Int) := by omega
      clear h
      go_enter Tryz.func3, Tryz.ntmps3
      go_wp2_with fail
      refine (begun14_any _).mono ?_
      rintro e w1 ⟨rfl, hb⟩
      go_wp2_with fail
      go_ret
      exact ⟨rfl, hb⟩
end Go.Proofs.YtljdbaddockfcaaGreat.Pk
