/-
  Texts laid together: LinkAct2, LinkActP, LinkPlF.
-/
import Derived.Test.YtbhhfnlkpieebaaGreatRefSeeEtc
import Derived.Test.YtbhhfnlkpieebaaGreatRefG7Etc
import Derived.Deep.RegionHeld3
import Derived.Test.YtbhhfnlkpieebaaGreatLinkLaw
import Derived.Test.YtbhhfnlkpieebaaGreatRecsEtc
namespace Go.Proofs.YtbhhfnlkpieebaaGreat.Pk
open Lib (hid)
open Go.RowKit
set_option linter.unusedVariables false
set_option linter.unusedSimpArgs false
set_option maxRecDepth 100000
section
variable {w wr w' : World} {p : Pl} {q lo m k n : Nat} {c : Cf} {D D2 D' : Wd} {t u : Th} {r i x y sp sd : Int} {zs : List Int}
theorem MW.does {f : FuncId} {args : List Value} {B : Nat} {v : Value} (h : MW w p c D m wr) (ha : Does c D f args B D' v) :
   Calls Tryz.prog f (List.toArray (.pointer (some ⟨p.a, 0, none⟩) :: args)) wr fun e w' => e = .returned v ∧ (∃ d, d ≤ B ∧ MW w p c D' (m + d) w') ∧ Touch (ak p) wr w' := by
 obtain ⟨zs, hG, hR, hp, hB⟩ := h
 obtain ⟨zs', ⟨d, hd, H⟩, hR'⟩ := ha zs hG.wz hR
 refine (H p m wr hG).mono ?_
 rintro e w' ⟨rfl, hG', hT⟩
 exact ⟨rfl, ⟨d, hd, ⟨zs', hG', hR', hp, hB.trans (hT.below hp hB.size)⟩⟩, hT⟩
theorem MW.Su (h : MW w p c D m wr) : kQ w p c D wr := by
 obtain ⟨zs, h1, h2, h3, h4⟩ := h
 exact ⟨zs, m, h1, h2, h3, h4⟩
def Wd.xg (D : Wd) (x y : Int) : Nat := if D.kE x y = 0 then 1 + D.qB x y else 0
set_option maxHeartbeats 2000000 in
theorem Ld (c : Cf) (D : Wd) (x y : Int) {wr w : World} {p : Pl} (h : MW w p c D m wr) :
   Calls Tryz.prog 41 #[.pointer (some ⟨p.a, 0, none⟩), .int .i64 x, .int .i64 y] wr fun e w' => e = .returned (.tuple #[.int .i64 (D.iw x y), .int .i64 (D.kE x y)]) ∧ ((∃ d, d ≤ 128 + 2 * c.W * D.xg x y ∧ MW w p c (D.born x y) (m + d) w') ∧ nH D x y c.N) ∧ Touch (ak p) wr w' := by
 have HM := hid (Jb D x y h)
 clear h
 unfold Wd.xg
 by_cases hE : D.kE x y = 0
 · have hD : D.born x y = ((D.jF x y).oQ (D.iw x y)).more (D.iw x y) := by unfold Wd.born; rw [if_pos hE]
   have HE := hid hE
   rw [hE] at HM
   rw [if_pos rfl] at HM
   rw [hE, hD, if_pos rfl]
   clear hE hD
   go_enter Tryz.func41, Tryz.ntmps41
   go_wp2_with fail
   refine HM.out.mono ?_
   rintro e w1 ⟨rfl, ⟨d1, hd1, h1⟩, hT⟩
   have HBk := hid h1.Su.Ak
   have HS1 := hid h1
   have HT1 := hid hT
   have Hd1 := hid hd1
   obtain ⟨t, hf, eh, em⟩ := HBk.out.new HE.out
   have h64 : In64 (D.iw x y) := by
     obtain ⟨zs, m, hG, hR, _⟩ := h1.Su
     exact jb hG.may hR hf
   obtain ⟨mm, hf2, _, em2⟩ := wE (D.iw x y) hf (D.iw x y)
   have HDy := hid ((jW.oQ c (D.jF x y) (D.iw x y) h64).as (vb (show ((D.jF x y).find (D.iw x y)).isSome = true by rw [hf]; rfl)) rfl)
   have HMo := hid (AA (c := c) hf2 (by show mm.refs < _; rw [em2, em]; decide))
   clear h1 hT hf hf2 hd1
   go_wp2_with fail
   refine (HS1.out.does HDy.out).mono ?_
   rintro e w2 ⟨rfl, ⟨d2, hd2, h2⟩, hT2⟩
   have HS2 := hid h2
   have Hd2 := hid hd2
   have HT2 := hid (HT1.out.trans hT2)
   clear h2 hT2 hd2
   go_wp2_with fail
   refine (HS2.out.does HMo.out).mono ?_
   rintro e w3 ⟨rfl, ⟨d3, hd3, h3⟩, hT3⟩
   have HS3 := hid h3
   have Hd3 := hid hd3
   have HT3 := hid (HT2.out.trans hT3)
   clear h3 hT3 hd3
   go_wp2_with fail
   go_ret2
   refine ⟨rfl, ⟨⟨d1 + d2 + d3, ?_, ?_⟩, HBk.out⟩, HT3.out⟩
   · have := Hd1.out
     have := Hd2.out
     have := Hd3.out
     omega
   · have := HS3.out
     rw [show m + d1 + d2 + d3 = m + (d1 + d2 + d3) by omega] at this
     exact this
 · have hD : D.born x y = D.jF x y := by unfold Wd.born Wd.jF; rw [if_neg hE, if_neg hE]
   have hb : (D.kE x y == 0) = false := bD hE
   have hR0 : D.iw x y = 0 := by unfold Wd.iw; rw [if_neg hE]
   have HE := hid hE
   rw [if_neg hE] at HM
   rw [hD, if_neg hE]
   rw [hR0] at HM ⊢
   clear hE hD hR0
   generalize hEe : D.kE x y = E at *
   have HEe := hid hEe
   clear hEe
   go_enter Tryz.func41, Tryz.ntmps41
   go_wp2_with fail
   refine HM.out.mono ?_
   rintro e w1 ⟨rfl, ⟨d1, hd1, h1⟩, hT⟩
   have HBk := hid h1.Su.Ak
   have HS1 := hid h1
   have HT1 := hid hT
   have Hd1 := hid hd1
   clear h1 hT hd1
   go_wp2_with fail
   go_ret2
   exact ⟨rfl, ⟨⟨d1, by have := Hd1.out; omega, HS1.out⟩, HBk.out⟩, HT1.out⟩
theorem yt (hok : nH D x y c.N) (S : bY D) : Does c (D.born x y) 49 [.int .i64 (D.iw x y)] 12 (D.born x y) (.int .i64 ((D.xg x y : Nat) : Int)) := by
 by_cases hE : D.kE x y = 0
 · obtain ⟨t, hf, eh, em⟩ := hok.new hE
   have hlv : t.lv.length = D.qB x y := by
     obtain ⟨hs, ex, ey, _, _, hcl, hk⟩ := wY hE
     have hlen : (D.clean.tail.take (D.qB x y)).length = D.qB x y := by
       unfold Wd.qB at hk ⊢
       omega
     have hD : D.jF x y = D.made D.tX (D.clean.tail.take (D.qB x y)) (D.clean.tail.drop (D.qB x y)) x.toNat y.toNat := by unfold Wd.jF; rw [if_pos hE]
     have S1 := hok.san S
     have hm : (⟨D.tX, ints (D.clean.tail.take (D.qB x y)), jX x.toNat, jX y.toNat, false, cO.new⟩ : Th) ∈ (D.jF x y).live := by rw [hD, iR]; simp
     have h2 := S1.jI hm
     have e : D.iw x y = (D.tX : Int) + 1 := by unfold Wd.iw; rw [if_pos hE]
     rw [e] at hf
     have h3 : some t = some _ := hf.symm.trans h2
     cases h3
     show (ints _).length = _
     rw [az, hlen]
   obtain ⟨m1, hf1, hd1, _⟩ := wE (D.iw x y) hf (D.iw x y)
   obtain ⟨m2, hf2, hd2⟩ := qC (D.iw x y) hf1 (D.iw x y)
   have hb : D.born x y = ((D.jF x y).oQ (D.iw x y)).more (D.iw x y) := by unfold Wd.born; rw [if_pos hE]
   rw [hb]
   have hdd : m2.dead = false := by rw [hd2]; show m1.dead = false; rw [hd1, em]; rfl
   have := II (c := c) hf2 hdd
   have e : ((vJ { t with mr := m2 } : Nat) : Int) = ((D.xg x y : Nat) : Int) := by
     unfold vJ Wd.xg
     rw [if_pos hE]
     show ((if m2.dead then 1 + m2.leaves.toNat else 1 + t.lv.length : Nat) : Int) = _
     rw [hdd, hlv]
     rfl
   rw [e] at this
   exact this
 · have hb : D.born x y = D := by unfold Wd.born; rw [if_neg hE]
   have hR0 : D.iw x y = 0 := by unfold Wd.iw; rw [if_neg hE]
   have hn : D.xg x y = 0 := by unfold Wd.xg; rw [if_neg hE]
   rw [hb, hR0, hn]
   intro zs hz R
   have h := kD.blocks c zs D.clean D.bK 0 hz R.heap (by unfold In64; omega)
   have e : Aj D.bK 0 = 0 := by
     unfold Aj
     have hf : D.find 0 = none := by
       cases hf : D.find 0 with
       | none => rfl
       | some t => have := (aC hf).2; omega
     rw [fC R 0, hf]
     rfl
   rw [e] at h
   exact ⟨zs, h, R⟩
set_option maxHeartbeats 2000000 in
theorem Ru (h : lV w p q lo c D D m wr) (I : di c k D) (hN : c.N ≤ 1000) (hk : k ≤ 1000) (r i x sp sd : Int) :
   Calls Tryz.prog 15 #[.pointer (some ⟨p.a, 0, none⟩), .pointer (some ⟨q, 0, none⟩), .agg #[.int .u8 0, .int .i64 r, .int .i64 i, .int .i64 x, .int .i64 sp, .int .i64 sd]] wr (fun e w' => tY w p q lo c (D.born sp sd) e w' ∧ di c (k + 1) (D.born sp sd)) := by
 have hsit := h.st.1.sit I.san
 have hlens := hsit.lens
 have hw := hsit.wd.2.w
 have HBk := hid (aU.new wr #[.int .u8 0, .int .i64 r, .int .i64 i, .int .i64 x, .int .i64 sp, .int .i64 sd] 33)
 have HNo := hid h.box
 have HT0 := hid (h.later (ah wr (.cells #[.int .u8 0, .int .i64 r, .int .i64 i, .int .i64 x, .int .i64 sp, .int .i64 sd] 33)))
 have HSn := hid I.san
 have HIn := hid I
 have HBo := hid (fun wz (hz : lV w p q lo c D D m wz) => Ld c D sp sd hz.1)
 have HWh := hid (fun wz m' D1 (hz : lV w p q lo c D1 D m' wz) (hok : nH D sp sd c.N) => hz.world (QD hz.2.1 sp sd (by omega) (by have := I.hd.1; simp at this; omega) (by
   unfold Wd.tX
   cases hc : D.clean with
   | nil => simp
   | cons b l =>
     obtain ⟨zs, hz, R⟩ := hsit.ry
     have := R.heap.pl.ch.lt b (by rw [hc]; simp)
     simp
     omega) (fun hE => by
       obtain ⟨t, h1, _, h2⟩ := hok.new hE
       exact ⟨t, h1, by rw [h2]; rfl⟩)))
 have hnb : D.xg sp sd ≤ 1000 := by
   unfold Wd.xg
   split
   · rename_i hE
     obtain ⟨hs, ex, ey, _, _, hcl, hk⟩ := wY hE
     have h1 := congrArg List.length hcl
     have h2 : (1 + (D.clean.tail.take (D.qB sp sd)).length : Int) = aX (D.w : Int) sp sd := hk
     rw [List.length_append, List.length_cons] at h1
     unfold Wd.qB at h2 ⊢
     unfold Wd.qB at h1
     omega
   · omega
 have hwn : c.W * D.xg sp sd ≤ 256 * 1000 := Nat.mul_le_mul (by omega) hnb
 have e0 : (2 : Int) * (c.W : Int) * ((D.xg sp sd : Nat) : Int) = ((2 * c.W * D.xg sp sd : Nat) : Int) := by rw [Int.natCast_mul, Int.natCast_mul]; rfl
 have e1 : 2 * c.W * D.xg sp sd = 2 * (c.W * D.xg sp sd) := Nat.mul_assoc _ _ _
 have hW2 : IntKind.i64.wrap (2 * (c.W : Int)) = 2 * (c.W : Int) := IntWalk.i64_in _ (by omega)
 have hW3 : IntKind.i64.wrap (2 * (c.W : Int) * ((D.xg sp sd : Nat) : Int)) = 2 * (c.W : Int) * ((D.xg sp sd : Nat) : Int) := by rw [e0]; exact IntWalk.i64_in _ (by omega)
 have hW4 : IntKind.i64.wrap (128 + 2 * (c.W : Int) * ((D.xg sp sd : Nat) : Int)) = 128 + 2 * (c.W : Int) * ((D.xg sp sd : Nat) : Int) := by rw [e0]; exact IntWalk.i64_in _ (by omega)
 have hW5 : IntKind.u64.wrap (128 + 2 * (c.W : Int) * ((D.xg sp sd : Nat) : Int)) = 128 + 2 * (c.W : Int) * ((D.xg sp sd : Nat) : Int) := by rw [e0, IntKind.wrap_u64]; omega
 have HMt : Hid (∀ d : Nat, d ≤ 128 + 2 * c.W * D.xg sp sd → IntKind.u64.wrap (iO (m + d) - iO m) = (d : Int) ∧ (d : Int) ≤ 128 + 2 * (c.W : Int) * ((D.xg sp sd : Nat) : Int)) := hid (fun d hd => ⟨qb m d (by omega), by rw [e0]; omega⟩)
 have HBl := hid (fun (hok : nH D sp sd c.N) => yt (c := c) hok I.san)
 clear e0 e1
 generalize D.xg sp sd = nb at *
 have n1 : (D.iw sp sd == D.iw sp sd) = true := beq_self_eq_true _
 have n2 : (D.kE sp sd == D.kE sp sd) = true := beq_self_eq_true _
 generalize D.iw sp sd = R0 at *
 generalize D.kE sp sd = E0 at *
 generalize hDb : D.born sp sd = Db at *
 have HDb := hid hDb
 have hfc := kG (c.N : Int) (c.W : Int) (c.R : Int) (c.K : Int)
 clear h hsit hlens hw hwn hnb I hDb
 go_enter Tryz.func15, Tryz.ntmps15
 go_wp2_with fail
 generalize wr.alloc (.cells #[.int .u8 0, .int .i64 r, .int .i64 i, .int .i64 x, .int .i64 sp, .int .i64 sd] 33) = w0 at *
 generalize wr.heap.size = n0 at *
 have b0 : w0.cell? ⟨n0, 0, none⟩ = some (.int .u8 0) := HBk.out.cell 0 rfl
 have b1 : w0.cell? ⟨n0, 1, none⟩ = some (.int .i64 r) := HBk.out.cell 1 rfl
 have b2 : w0.cell? ⟨n0, 2, none⟩ = some (.int .i64 i) := HBk.out.cell 2 rfl
 have b3 : w0.cell? ⟨n0, 3, none⟩ = some (.int .i64 x) := HBk.out.cell 3 rfl
 have b4 : w0.cell? ⟨n0, 4, none⟩ = some (.int .i64 sp) := HBk.out.cell 4 rfl
 have b5 : w0.cell? ⟨n0, 5, none⟩ = some (.int .i64 sd) := HBk.out.cell 5 rfl
 refine (HT0.out.jl).mono ?_
 rintro e wm ⟨rfl, rfl⟩
 go_wp2_with fail
 refine (HBo.out _ HT0.out).mono ?_
 rintro e w1 ⟨rfl, ⟨⟨d, hd, hS⟩, hok⟩, hT⟩
 have hk1 := HBk.out.touch hT HNo.out
 have hmt := (HMt.out d hd).1
 have hdl := (HMt.out d hd).2
 have HOk := hid hok
 have H1 : Hid (lV w p q lo c Db D (m + d) w1) := hid ⟨hS, HT0.out.2.1.touch hT (fun b hb hx => HT0.out.2.2.1 b hb (Or.inr hx)), HT0.out.2.2⟩
 clear b0 b1 b2 b3 b4 b5 hd hS hok hT
 have b4 : w1.cell? ⟨n0, 4, none⟩ = some (.int .i64 sp) := hk1.cell 4 rfl
 have b5 : w1.cell? ⟨n0, 5, none⟩ = some (.int .i64 sd) := hk1.cell 5 rfl
 clear hk1
 go_wp2_with fail
 refine (HWh.out _ _ _ H1.out HOk.out).mono ?_
 rintro e w2 ⟨rfl, hS⟩
 have H2 := hid hS
 clear hS b4 b5
 go_wp2_with fail
 refine (H2.out.jl).mono ?_
 rintro e w3 ⟨rfl, rfl⟩
 go_wp2_with fail
 refine (H2.out.1.Su.OZ).mono ?_
 rintro e w4 ⟨rfl, hb⟩
 have H4 := hid (H2.out.later hb)
 clear hb
 go_wp2_with fail
 refine (H4.out.does (HBl.out HOk.out)).mono ?_
 rintro e w5 ⟨rfl, ⟨d2, hd2, hS⟩, hT⟩
 have H5 := hid hS
 clear hS hT hd2
 go_wp2_with fail
 go_ret
 exact ⟨⟨rfl, H5.out.st⟩, by have := HIn.out.born HOk.out; rw [HDb.out] at this; exact this⟩
def Nb (c : Cf) (D : Wd) (r i x0 e0 : Int) : Prop :=
 (D.find r = none ∧ x0 = 0 ∧ e0 = 8) ∨ ∃ t, D.find r = some t ∧ ((¬ (0 ≤ i ∧ i < (t.pt.length : Int)) ∧ x0 = 0 ∧ e0 = 7) ∨ ∃ j : Nat, i = (j : Int) ∧ j < t.pt.length ∧ ((eP c.W t j = true ∧ x0 = 0 ∧ e0 = 7) ∨ (eP c.W t j = false ∧ x0 = nth t.pt j ∧ e0 = 0)))
theorem IU (h : Sit c D) (hr : In64 r) (i : Int) : ∃ x0 e0, Does c D 42 [.int .i64 r, .int .i64 i] 12 D (.tuple #[.int .i64 x0, .int .i64 e0]) ∧ Nb c D r i x0 e0 := by
 cases hf : D.find r with
 | none =>
   refine ⟨0, 8, fun zs hz R => ?_, .inl ⟨hf, rfl, rfl⟩⟩
   obtain ⟨d, hd, C⟩ := kD.ptr c zs D.clean D.bK r i hz R.heap hr
   have hob := fC R r
   rw [hf] at hob
   have hob : eu D.bK r = none := hob
   rw [show mY c zs D.bK r i = 0 by unfold mY; rw [hob], show lY c D.bK r i = 8 by unfold lY; rw [hob]] at C
   exact ⟨zs, ⟨d, hd, wV C⟩, R⟩
 | some t =>
   by_cases hi : 0 ≤ i ∧ i < (t.pt.length : Int)
   · obtain ⟨j, rfl⟩ := Int.eq_ofNat_of_zero_le hi.1
     have hj : j < t.pt.length := by have := hi.2; omega
     obtain ⟨htl, _⟩ := aC hf
     have z := h.Na htl
     rw [h.wd.1] at z
     have hs := pu (c := c) (t := t) (k := j) z.w0 (by omega) (fun hb => z.leaf hb (by omega))
     have hb : kF ((j : Nat) : Int) t.ob.np = true := by
       unfold kF
       rw [decide_eq_true_eq]
       exact ⟨hi.1, hi.2⟩
     cases hsb : eP c.W t j with
     | true =>
       rw [hsb] at hs
       have hn : aY c t.ob j = none := by cases ha : aY c t.ob j with | none => rfl | some q => rw [ha] at hs; cases hs
       refine ⟨0, 7, fun zs hz R => ?_, .inr ⟨t, hf, .inr ⟨j, rfl, hj, .inl ⟨hsb, rfl, rfl⟩⟩⟩⟩
       obtain ⟨d, hd, C⟩ := kD.ptr c zs D.clean D.bK r (j : Int) hz R.heap hr
       have hob := fC R r
       rw [hf] at hob
       have hob : eu D.bK r = some t.ob := hob
       rw [show mY c zs D.bK r (j : Int) = 0 by unfold mY; rw [hob]; simp only; rw [if_pos hb]; unfold ik; rw [Int.toNat_natCast, hn], show lY c D.bK r (j : Int) = 7 by unfold lY; rw [hob]; simp only; rw [hb, Int.toNat_natCast, hn]; rfl] at C
       exact ⟨zs, ⟨d, hd, wV C⟩, R⟩
     | false =>
       rw [hsb] at hs
       obtain ⟨q, hn⟩ : ∃ q, aY c t.ob j = some q := by cases ha : aY c t.ob j with | none => rw [ha] at hs; cases hs | some q => exact ⟨q, rfl⟩
       refine ⟨nth t.pt j, 0, fun zs hz R => ?_, .inr ⟨t, hf, .inr ⟨j, rfl, hj, .inr ⟨hsb, rfl, rfl⟩⟩⟩⟩
       obtain ⟨d, hd, C⟩ := kD.ptr c zs D.clean D.bK r (j : Int) hz R.heap hr
       have hob := fC R r
       rw [hf] at hob
       have hob : eu D.bK r = some t.ob := hob
       have hv := R.uW t htl j q (by unfold Th.ob Ob.f; simp; omega) hn
       rw [show mY c zs D.bK r (j : Int) = nth t.pt j by unfold mY; rw [hob]; simp only; rw [if_pos hb]; unfold ik; rw [Int.toNat_natCast, hn]; show nth zs q = _; rw [hv]; unfold Th.uW; rw [if_pos hj], show lY c D.bK r (j : Int) = 0 by unfold lY; rw [hob]; simp only; rw [hb, Int.toNat_natCast, hn]; rfl] at C
       exact ⟨zs, ⟨d, hd, wV C⟩, R⟩
   · refine ⟨0, 7, fun zs hz R => ?_, .inr ⟨t, hf, .inl ⟨hi, rfl, rfl⟩⟩⟩
     obtain ⟨zs2, ⟨d2, hd2, C2⟩, R2, _⟩ := (zy (c := c) hf hi).at hz R
     exact ⟨zs2, ⟨d2, hd2, wV C2⟩, R2⟩
theorem xY {lab : Nat → Nat} {a : WA} (h : Sit c D) {x0 e0 : Int} (hg : Nb c D r i x0 e0) (hw : aF wr lo lab a D) :
   Calls Tryz.prog 73 #[.pointer (some ⟨a.hb, 0, none⟩), .int .i64 r, .int .i64 i, .bool false] wr fun e w' => e = .returned (.int .i64 e0) ∧ fe wr w' := by
 rcases hg with ⟨hf, _, rfl⟩ | ⟨t, hf, ⟨hi, _, rfl⟩ | ⟨j, rfl, hj, h2⟩⟩
 · exact (CG hw hf i).mono fun e w' ⟨e1, e2⟩ => ⟨e1, by subst e2; exact fe.refl _⟩
 · exact (uX hw hf hi).mono fun e w' ⟨e1, e2⟩ => ⟨e1, by subst e2; exact fe.refl _⟩
 · have := jJ hw hf (h.Na (aC hf).1) hj
   rw [h.wd.1] at this
   rcases h2 with ⟨hs, _, rfl⟩ | ⟨hs, _, rfl⟩
   · rw [hs] at this; exact this
   · rw [hs] at this; exact this
set_option maxHeartbeats 2000000 in
theorem xq (h : lV w p q lo c D D m wr) (hP : Sit c D) (r i x sp sd : Int) {e0 : Int} (he : e0 ≠ 0) (HG : Does c D 42 [.int .i64 r, .int .i64 i] 12 D (.tuple #[.int .i64 0, .int .i64 e0])) (hg : Nb c D r i 0 e0) :
   Calls Tryz.prog 15 #[.pointer (some ⟨p.a, 0, none⟩), .pointer (some ⟨q, 0, none⟩), .agg #[.int .u8 4, .int .i64 r, .int .i64 i, .int .i64 x, .int .i64 sp, .int .i64 sd]] wr (tY w p q lo c D) := by
 have HBk := hid (aU.new wr #[.int .u8 4, .int .i64 r, .int .i64 i, .int .i64 x, .int .i64 sp, .int .i64 sd] 33)
 have HNo := hid h.box
 have HT0 := hid (h.later (ah wr (.cells #[.int .u8 4, .int .i64 r, .int .i64 i, .int .i64 x, .int .i64 sp, .int .i64 sd] 33)))
 have HGe := hid HG
 have HWr := hid (fun wz lab a (hw : aF wz lo lab a D) => xY hP hg hw)
 have n1 : (e0 == e0) = true := beq_self_eq_true e0
 have n2 : (e0 != 0) = true := by rw [bne_iff_ne]; exact he
 have n3 : (e0 == 0) = false := bD he
 clear h hP HG hg he
 go_enter Tryz.func15, Tryz.ntmps15
 go_wp2_with fail
 generalize wr.alloc (.cells #[.int .u8 4, .int .i64 r, .int .i64 i, .int .i64 x, .int .i64 sp, .int .i64 sd] 33) = w0 at *
 generalize wr.heap.size = n0 at *
 have b0 : w0.cell? ⟨n0, 0, none⟩ = some (.int .u8 4) := HBk.out.cell 0 rfl
 have b1 : w0.cell? ⟨n0, 1, none⟩ = some (.int .i64 r) := HBk.out.cell 1 rfl
 have b2 : w0.cell? ⟨n0, 2, none⟩ = some (.int .i64 i) := HBk.out.cell 2 rfl
 have b3 : w0.cell? ⟨n0, 3, none⟩ = some (.int .i64 x) := HBk.out.cell 3 rfl
 have b4 : w0.cell? ⟨n0, 4, none⟩ = some (.int .i64 sp) := HBk.out.cell 4 rfl
 have b5 : w0.cell? ⟨n0, 5, none⟩ = some (.int .i64 sd) := HBk.out.cell 5 rfl
 refine (HT0.out.jl).mono ?_
 rintro e wm ⟨rfl, rfl⟩
 go_wp2_with fail
 refine (HT0.out.does HGe.out).mono ?_
 rintro e w1 ⟨rfl, ⟨d, hd, hS⟩, hT⟩
 have hk := HBk.out.touch hT HNo.out
 have H1 := hid hS
 clear b0 b1 b2 b3 b4 b5 hd hS hT
 have b1 : w1.cell? ⟨n0, 1, none⟩ = some (.int .i64 r) := hk.cell 1 rfl
 have b2 : w1.cell? ⟨n0, 2, none⟩ = some (.int .i64 i) := hk.cell 2 rfl
 obtain ⟨lab, a, ea, hw⟩ := H1.out.2.1
 have c0 : w1.cell? ⟨q, 0, none⟩ = some (.pointer (some ⟨a.hb, 0, none⟩)) := by rw [← ea]; exact hw.c0
 have HW1 := hid hw
 clear hk ea hw
 go_wp2_with fail
 go_quiet ((go_at_call 73; exact (HWr.out _ _ _ (HW1.out.gy ⟨_, rfl⟩)).mono (fun e w' ⟨h1, m, h2⟩ => ⟨h1, _, h2.trans (World.drewN_drewN _ _ _)⟩)))
 go_wp2_with fail
 go_ret
 exact ⟨rfl, (H1.out.later (fe.new ⟨_, rfl⟩)).st⟩
set_option maxHeartbeats 2000000 in
theorem Jo (h : lV w p q lo c D D m wr) (hP : Sit c D) (r x sp sd : Int) {j : Nat} (hf : D.find r = some t) (hj : j < t.pt.length) (HG : Does c D 42 [.int .i64 r, .int .i64 (j : Int)] 12 D (.tuple #[.int .i64 (nth t.pt j), .int .i64 0])) (hg : Nb c D r (j : Int) (nth t.pt j) 0) :
   Calls Tryz.prog 15 #[.pointer (some ⟨p.a, 0, none⟩), .pointer (some ⟨q, 0, none⟩), .agg #[.int .u8 4, .int .i64 r, .int .i64 (j : Int), .int .i64 x, .int .i64 sp, .int .i64 sd]] wr (tY w p q lo c D) := by
 have HBk := hid (aU.new wr #[.int .u8 4, .int .i64 r, .int .i64 (j : Int), .int .i64 x, .int .i64 sp, .int .i64 sd] 33)
 have HNo := hid h.box
 have HT0 := hid (h.later (ah wr (.cells #[.int .u8 4, .int .i64 r, .int .i64 (j : Int), .int .i64 x, .int .i64 sp, .int .i64 sd] 33)))
 have HGe := hid HG
 have HWr := hid (fun wz lab a (hw : aF wz lo lab a D) => xY hP hg hw)
 have HFd := hid (fun wz lab a (hw : aF wz lo lab a D) => hw.found hf)
 have HMt : Hid (∀ d : Nat, d ≤ 12 → IntKind.u64.wrap (iO (m + d) - iO m) = (d : Int) ∧ (d : Int) ≤ 64) := hid (fun d hd => ⟨qb m d (by omega), by omega⟩)
 have n1 : (nth t.pt j == nth t.pt j) = true := beq_self_eq_true _
 have HJ := hid hj
 clear h hP HG hg hf
 go_enter Tryz.func15, Tryz.ntmps15
 go_wp2_with fail
 generalize wr.alloc (.cells #[.int .u8 4, .int .i64 r, .int .i64 (j : Int), .int .i64 x, .int .i64 sp, .int .i64 sd] 33) = w0 at *
 generalize wr.heap.size = n0 at *
 have b0 : w0.cell? ⟨n0, 0, none⟩ = some (.int .u8 4) := HBk.out.cell 0 rfl
 have b1 : w0.cell? ⟨n0, 1, none⟩ = some (.int .i64 r) := HBk.out.cell 1 rfl
 have b2 : w0.cell? ⟨n0, 2, none⟩ = some (.int .i64 (j : Int)) := HBk.out.cell 2 rfl
 have b3 : w0.cell? ⟨n0, 3, none⟩ = some (.int .i64 x) := HBk.out.cell 3 rfl
 have b4 : w0.cell? ⟨n0, 4, none⟩ = some (.int .i64 sp) := HBk.out.cell 4 rfl
 have b5 : w0.cell? ⟨n0, 5, none⟩ = some (.int .i64 sd) := HBk.out.cell 5 rfl
 refine (HT0.out.jl).mono ?_
 rintro e wm ⟨rfl, rfl⟩
 go_wp2_with fail
 refine (HT0.out.does HGe.out).mono ?_
 rintro e w1 ⟨rfl, ⟨d, hd, hS⟩, hT⟩
 have hk := HBk.out.touch hT HNo.out
 have hmt := (HMt.out d hd).1
 have hdl := (HMt.out d hd).2
 have H1 := hid hS
 clear b0 b1 b2 b3 b4 b5 hd hS hT
 have b1 : w1.cell? ⟨n0, 1, none⟩ = some (.int .i64 r) := hk.cell 1 rfl
 have b2 : w1.cell? ⟨n0, 2, none⟩ = some (.int .i64 (j : Int)) := hk.cell 2 rfl
 obtain ⟨lab, a, ea, hw⟩ := H1.out.2.1
 have c0 : w1.cell? ⟨q, 0, none⟩ = some (.pointer (some ⟨a.hb, 0, none⟩)) := by rw [← ea]; exact hw.c0
 obtain ⟨ii, xa, hi, ht, hx⟩ := HFd.out _ _ _ hw
 have hTA := hw.h.th ii t xa ht hx
 have d2 := hTA.c2
 obtain ⟨g, hpa, hgl, gc, _⟩ := hTA.pt.at hj
 rw [hpa] at d2
 have HW1 := hid hw
 have HFi := hid (fun n => bB (HW1.out.gy (w' := w1.drewN n) ⟨n, rfl⟩) hi hx)
 have HMe := hid (fun n => (H1.out.later (w' := w1.drewN n) (fe.new ⟨n, rfl⟩)).jl)
 clear hk ea hw hi ht hx hTA hpa
 go_wp2_with fail
 go_quiet ((go_at_call 73; exact (HWr.out _ _ _ (HW1.out.gy ⟨_, rfl⟩)).mono (fun e w' ⟨h1, m, h2⟩ => ⟨h1, _, h2.trans (World.drewN_drewN _ _ _)⟩)))
 go_wp2_with fail
 go_quiet ((first | (go_at_call 74; exact (HFi.out _).mono (fun e w' ⟨h1, h2⟩ => ⟨h1, _, h2.symm⟩)) | (go_at_call 21; exact (HMe.out _).mono (fun e w' ⟨h1, h2⟩ => ⟨h1, _, h2.symm⟩))))
 go_wp2_with fail
 go_ret
 exact ⟨rfl, (H1.out.later (fe.new ⟨_, by first | rfl | exact World.drewN_drewN _ _ _⟩)).st⟩
theorem Ry (h : lV w p q lo c D D m wr) (hP : Sit c D) (hr : In64 r) (i x sp sd : Int) :
   Calls Tryz.prog 15 #[.pointer (some ⟨p.a, 0, none⟩), .pointer (some ⟨q, 0, none⟩), .agg #[.int .u8 4, .int .i64 r, .int .i64 i, .int .i64 x, .int .i64 sp, .int .i64 sd]] wr (tY w p q lo c D) := by
 obtain ⟨x0, e0, HG, hg⟩ := IU hP hr i
 have hg2 := hg
 rcases hg with ⟨hf, rfl, rfl⟩ | ⟨t, hf, ⟨hi, rfl, rfl⟩ | ⟨j, rfl, hj, ⟨hs, rfl, rfl⟩ | ⟨hs, rfl, rfl⟩⟩⟩
 · exact xq h hP r i x sp sd (by decide) HG hg2
 · exact xq h hP r i x sp sd (by decide) HG hg2
 · exact xq h hP r _ x sp sd (by decide) HG hg2
 · exact Jo h hP r x sp sd hf hj HG hg2
end
section
variable {w wr w' : World} {p : Pl} {q lo m k n : Nat} {c : Cf} {D D2 D' : Wd} {t u : Th} {r i x y sp sd : Int}
theorem aF.Sy {a : WA} {lab : Nat → Nat} (h : aF wr lo lab a D) : ∀ (i : Nat) (t : Th) (x : TA), D.ts[i]? = some t → a.tas[i]? = some x → 0 < t.pt.length → ∀ g, x.pa = some ⟨g, 0, none⟩ → g < wr.heap.size := fun i t x ht hx h0 g hg => ((h.h.th i t x ht hx).lpa h0 g 0 hg).2.1
theorem aF.Rq {a : WA} {lab : Nat → Nat} (h : aF wr lo lab a D) : ¬ XW lo wr.heap.size a wr.heap.size := fun hx => by
 rcases hx with hx | ⟨xx, hm, hx⟩
 · have := h.wb.lt; omega
 · obtain ⟨ii, hii⟩ := List.mem_iff_getElem?.1 hm
   have hl := (List.getElem?_eq_some_iff.1 hii).1
   rw [h.h.len] at hl
   rcases hx with hx | ⟨_, hx, _⟩
   · have := (h.mb ii _ xx (List.getElem?_eq_getElem hl) hii).1.lt; omega
   · omega
theorem aF.Rn {a : WA} {lab : Nat → Nat} (h : aF wr lo lab a D) {Bd b : Nat} (hx : XW lo Bd a b) : lo ≤ b := by
 rcases hx with hx | ⟨xx, hm, hx⟩
 · rw [hx]; exact h.lq.1
 · obtain ⟨ii, hii⟩ := List.mem_iff_getElem?.1 hm
   have hl := (List.getElem?_eq_some_iff.1 hii).1
   rw [h.h.len] at hl
   rcases hx with hx | ⟨_, _, hx⟩
   · rw [hx]; exact (h.mb ii _ xx (List.getElem?_eq_getElem hl) hii).2.1
   · exact hx
theorem lV.next (h : lV w p q lo c D D2 m wr) (k1 : bI w' lo q D') (k3 : Touch (fun b => lo ≤ b) wr w') : lV w p q lo c D D' m w' := by
 obtain ⟨⟨zs, hG, hR, hp, hB⟩, h5, h6, h7⟩ := h
 exact ⟨⟨zs, hG.touch k3 (fun i hi hx => h6 i hx hi), hR, hp, hB.trans (k3.below (fun i hi => Nat.le_trans h7 hi) hB.size)⟩, k1, h6, h7⟩
set_option maxHeartbeats 2000000 in
theorem Rv (h : lV w p q lo c D D m wr) (r i x sp sd : Int) {v : Int} {B : Nat} (hB : B ≤ 192) (HP : Does c D 43 [.int .i64 r, .int .i64 i, .int .i64 x] B D' (.int .i64 v))
   (HF : ∀ Bd wz lab a, WA.q a = q → aF wz lo lab a D → (∀ (i : Nat) (t : Th) (x : TA), D.ts[i]? = some t → a.tas[i]? = some x → 0 < t.pt.length → ∀ g, x.pa = some ⟨g, 0, none⟩ → g < Bd) → Calls Tryz.prog 70 #[.pointer (some ⟨q, 0, none⟩), .int .i64 r, .int .i64 i, .int .i64 x] wz (kY Bd wz lo a D' (.int .i64 v))) :
   Calls Tryz.prog 15 #[.pointer (some ⟨p.a, 0, none⟩), .pointer (some ⟨q, 0, none⟩), .agg #[.int .u8 1, .int .i64 r, .int .i64 i, .int .i64 x, .int .i64 sp, .int .i64 sd]] wr (tY w p q lo c D') := by
 have HBk := hid (aU.new wr #[.int .u8 1, .int .i64 r, .int .i64 i, .int .i64 x, .int .i64 sp, .int .i64 sd] 33)
 have HNo := hid h.box
 have HT0 := hid (h.later (ah wr (.cells #[.int .u8 1, .int .i64 r, .int .i64 i, .int .i64 x, .int .i64 sp, .int .i64 sd] 33)))
 have HPh := hid HP
 obtain ⟨lab, a, ea, hwa⟩ := h.2.1
 have HNx := hid hwa.Rq
 have HEa := hid ea
 have HWa : Hid (aF (wr.alloc (.cells #[.int .u8 1, .int .i64 r, .int .i64 i, .int .i64 x, .int .i64 sp, .int .i64 sd] 33)) lo lab a D) := hid (hwa.later (ah wr _))
 have HFh := hid (fun wz (hw : aF wz lo lab a D) => HF wr.heap.size wz lab a ea hw hwa.Sy)
 have HX : Hid (∀ b, lo ≤ b → ¬ ak p b) := hid (fun b hb hx => h.2.2.1 b hb (Or.inr hx))
 have HMt : Hid (∀ d : Nat, d ≤ B → IntKind.u64.wrap (iO (m + d) - iO m) = (d : Int) ∧ (d : Int) ≤ 192) := hid (fun d hd => ⟨qb m d (by omega), by omega⟩)
 have n1 : (v == v) = true := beq_self_eq_true v
 clear h HP HF hB hwa ea
 go_enter Tryz.func15, Tryz.ntmps15
 go_wp2_with fail
 generalize wr.alloc (.cells #[.int .u8 1, .int .i64 r, .int .i64 i, .int .i64 x, .int .i64 sp, .int .i64 sd] 33) = w0 at *
 generalize wr.heap.size = n0 at *
 have b0 : w0.cell? ⟨n0, 0, none⟩ = some (.int .u8 1) := HBk.out.cell 0 rfl
 have b1 : w0.cell? ⟨n0, 1, none⟩ = some (.int .i64 r) := HBk.out.cell 1 rfl
 have b2 : w0.cell? ⟨n0, 2, none⟩ = some (.int .i64 i) := HBk.out.cell 2 rfl
 have b3 : w0.cell? ⟨n0, 3, none⟩ = some (.int .i64 x) := HBk.out.cell 3 rfl
 have b4 : w0.cell? ⟨n0, 4, none⟩ = some (.int .i64 sp) := HBk.out.cell 4 rfl
 have b5 : w0.cell? ⟨n0, 5, none⟩ = some (.int .i64 sd) := HBk.out.cell 5 rfl
 refine (HT0.out.jl).mono ?_
 rintro e wm ⟨rfl, rfl⟩
 go_wp2_with fail
 have HTd := hid HT0.out.drew
 go_region_held3 (fun w' => w'.cell? ⟨n0, 1, none⟩ = some (.int .i64 r) ∧ w'.cell? ⟨n0, 2, none⟩ = some (.int .i64 i) ∧ w'.cell? ⟨n0, 3, none⟩ = some (.int .i64 x)) (first | exact ⟨b1, b2, b3⟩ | exact ⟨d1, d2, d3⟩ | exact ⟨e1, e2, e3⟩) (first | (go_at_call 43; refine (HTd.out.does HPh.out).mono ?_; rintro e w1 ⟨rfl, ⟨d, hd, hS⟩, hT⟩; have hk := HBk.out.drew.touch hT HNo.out; have d1 : w1.cell? ⟨n0, 1, none⟩ = some (.int .i64 r) := hk.cell 1 rfl; have d2 : w1.cell? ⟨n0, 2, none⟩ = some (.int .i64 i) := hk.cell 2 rfl; have d3 : w1.cell? ⟨n0, 3, none⟩ = some (.int .i64 x) := hk.cell 3 rfl; have hmt := (HMt.out d hd).1; have hdl := (HMt.out d hd).2; have HW1 := hid (HWa.out.drew.touch hT (fun b hb _ hx => HX.out b hb hx)); have HK := hid hk; have H1 := hid hS; clear hS hd hT hk) | (go_at_call 70; refine (HFh.out _ HW1.out).mono ?_; rintro e w2 ⟨rfl, k1, k2⟩; have hk := HK.out.touch k2 HNx.out; have e1 : w2.cell? ⟨n0, 1, none⟩ = some (.int .i64 r) := hk.cell 1 rfl; have e2 : w2.cell? ⟨n0, 2, none⟩ = some (.int .i64 i) := hk.cell 2 rfl; have e3 : w2.cell? ⟨n0, 3, none⟩ = some (.int .i64 x) := hk.cell 3 rfl; have H2 := hid (H1.out.next (HEa.out ▸ k1) (k2.mono (fun b _ hx => HW1.out.Rn hx))); clear k1 k2 hk) | (go_at_call 21; refine (H2.out.jl).mono ?_; rintro e w3 ⟨rfl, rfl⟩))
 all_goals (go_wp2_with fail)
 all_goals go_ret
 all_goals exact ⟨rfl, H2.out.st⟩
end
section
variable {w wr w' : World} {p : Pl} {q lo m k n : Nat} {c : Cf} {D D2 D' : Wd} {t u : Th} {r i x y sp sd : Int}
theorem bI.SH {P : Prop} (h : bI wr lo q D) (H : ∀ lab a, WA.q a = q → aF wr lo lab a D → P) : P := by
 obtain ⟨lab, a, e, hw⟩ := h
 exact H lab a e hw
theorem LW (hs : Sit c D) (I : di c k D) (hN : c.N ≤ 1000) (hk : k ≤ 1000) (hr : In64 r) (hx : In64 x) (i : Int) :
   ∃ B D' v, B ≤ 192 ∧ Does c D 43 [.int .i64 r, .int .i64 i, .int .i64 x] B D' (.int .i64 v) ∧ (∀ Bd wz lab a, WA.q a = q → aF wz lo lab a D → (∀ (i : Nat) (t : Th) (x : TA), D.ts[i]? = some t → a.tas[i]? = some x → 0 < t.pt.length → ∀ g, x.pa = some ⟨g, 0, none⟩ → g < Bd) → Calls Tryz.prog 70 #[.pointer (some ⟨q, 0, none⟩), .int .i64 r, .int .i64 i, .int .i64 x] wz (kY Bd wz lo a D' (.int .i64 v))) ∧ di c (k + 1) D' := by
 have B := hs.wb hN
 have hl := hs.lens
 cases ha : D.dn r with
 | false => exact ⟨_, D, _, by omega, CS hr ha i x, fun Bd wz lab a e hw _ => by subst e; exact Ez hw ha i x, I.up⟩
 | true =>
   obtain ⟨t, hf, hd⟩ := lg ha
   have z := hs.Na (aC hf).1
   by_cases hi : 0 ≤ i ∧ i < (t.pt.length : Int)
   · obtain ⟨j, rfl⟩ := Int.eq_ofNat_of_zero_le hi.1
     have hj : j < t.pt.length := by have := hi.2; omega
     have hsh := hs.NY hf hd (k := j) (by omega)
     by_cases hx0 : x = 0
     · subst hx0
       refine ⟨_, _, _, by omega, Fp I.san hf hd hj (.inl rfl) B.p0 B.p1, fun Bd wz lab a e hw hpb => ?_, I.put hf hd j 0 _⟩
       subst e
       by_cases hy : 0 < (D.bQ r j 0).cnt (nth t.pt j)
       · exact MI hw hpb B (by omega) hf hd z hj hsh hy
       · exact MH hw hpb B (by omega) hf hd z hj hsh hy
     · cases hxa : D.dn x with
       | false => exact ⟨_, D, _, by omega, Fq I.san hf hd hj hx0 hx hxa, fun Bd wz lab a e hw _ => by subst e; exact Gs hw hf hd z hj hsh hx0 hxa, I.up⟩
       | true =>
         obtain ⟨u, hu, hud⟩ := lg hxa
         have hub : u.mr.refs < 4294967295 := by have := (I.bd x u hu).1; omega
         refine ⟨_, _, _, by omega, Fp I.san hf hd hj (.inr ⟨u, hu, hud, hub⟩) B.p0 B.p1, fun Bd wz lab a e hw hpb => ?_, I.put hf hd j x _⟩
         subst e
         by_cases hy : 0 < (D.bQ r j x).cnt (nth t.pt j)
         · exact MK hw hpb B (by omega) hf hd z hj hsh hx0 ⟨u, hu, hud, hub⟩ hy
         · exact MJ hw hpb B (by omega) hf hd z hj hsh hx0 ⟨u, hu, hud, hub⟩ hy
   · exact ⟨_, D, _, by omega, Az hf hd hi x, fun Bd wz lab a e hw _ => by subst e; exact BH hw hf hd hi x, I.up⟩
theorem FB {zs zs1 : List Int} {d1 : Nat} {r : Int} (C1 : Run c 159 [.int .i64 r] zs d1 zs1 (.tuple #[.int .i64 0, .bool false])) : Run c 104 [.int .i64 r] zs d1 zs1 (.bool false) := fun p m w hG => by
 have HG := hid hG
 have HC1 := hid C1
 clear hG C1
 go_enter Tryz.func104, Tryz.ntmps104
 go_wp2_with fail
 refine (HC1.out p _ _ HG.out).mono ?_
 rintro e wm1 ⟨rfl, hG, hT⟩
 have HG1 := hid hG
 have HT1 := hid hT
 clear hG hT
 go_wp2_with fail
 go_ret
 exact ⟨rfl, HG1.out, HT1.out⟩
theorem CR (hf : D.find r = some t) (hd : t.mr.dead = false) (h0 : t.mr.refs = 0) : Does c D 45 [.int .i64 r] 22 D (.bool false) := fun zs hz R => by
 have hr := jb hz.may R hf
 obtain ⟨zs1, ⟨d1, hd1, C1⟩, R1, hz1⟩ := (jg (c := c) (D := D) hr).at hz R
 rw [bi hf, hd] at C1
 obtain ⟨htl, e⟩ := aC hf
 obtain ⟨d2, hd2, C2⟩ := rX.down_zero c zs1 D.clean D.bK t.ob hz1 R1.heap (R1.bP htl) (by have e3 : nth zs1 (ai c t.ob.h 3) = t.mr.refs := (R1.own t htl).w3; rw [e3, h0])
 have e' : ((t.ob.h : Nat) : Int) + 1 = r := e
 rw [e'] at C2
 exact ⟨zs1, ⟨d1 + d2, by omega, Lg C1 (FB C2)⟩, R1⟩
theorem Lc (hs : Sit c D) (I : di c k D) (hN : c.N ≤ 1000) (hr : In64 r) :
   ∃ B, B ≤ 96 ∧ Does c D 45 [.int .i64 r] B (D.mU r) (.bool (D.pK r)) ∧ (∀ wz, bI wz lo q D → Calls Tryz.prog 71 #[.pointer (some ⟨q, 0, none⟩), .int .i64 r] wz (eF wz lo q (D.mU r) (.bool (D.pK r)))) ∧ di c (k + 1) (D.mU r) := by
 have B := hs.wb hN
 have HW : ∀ wz, bI wz lo q D → Calls Tryz.prog 71 #[.pointer (some ⟨q, 0, none⟩), .int .i64 r] wz (eF wz lo q (D.mU r) (.bool (D.pK r))) := fun wz h => h.SH fun lab a e hw => by subst e; exact Sb hw B r
 cases ha : D.dn r with
 | false =>
   have e1 : D.pK r = false := by unfold Wd.pK; rw [ha]; rfl
   have e2 : D.mU r = D := by unfold Wd.mU; rw [e1]; rfl
   refine ⟨14, by omega, ?_, HW, I.mU r⟩
   rw [e1, e2]
   exact IV hr ha
 | true =>
   obtain ⟨t, hf, hd⟩ := lg ha
   have hc : D.cnt r = t.mr.refs := by unfold Wd.cnt; rw [hf]
   by_cases h0 : t.mr.refs = 0
   · have e1 : D.pK r = false := by unfold Wd.pK; rw [hc]; simp [h0]
     have e2 : D.mU r = D := by unfold Wd.mU; rw [e1]; rfl
     refine ⟨22, by omega, ?_, HW, I.mU r⟩
     rw [e1, e2]
     exact CR hf hd h0
   · have e1 : D.pK r = true := by unfold Wd.pK; rw [ha, hc]; simp [h0]
     have e2 : D.mU r = D.less r := by unfold Wd.mU; rw [e1]; rfl
     refine ⟨60, by omega, ?_, HW, I.mU r⟩
     rw [e1, e2]
     exact KY hf hd h0 B.p0 B.p1
theorem IP (hs : Sit c D) (I : di c k D) (hN : c.N ≤ 1000) (hk : k ≤ 1000) (hr : In64 r) :
   ∃ B, B ≤ 64 ∧ Does c D 44 [.int .i64 r] B (D.oG r) (.bool (D.dn r)) ∧ (∀ wz, bI wz lo q D → Calls Tryz.prog 72 #[.pointer (some ⟨q, 0, none⟩), .int .i64 r] wz (eF wz lo q (D.oG r) (.bool (D.dn r)))) ∧ di c (k + 1) (D.oG r) := by
 have B := hs.wb hN
 cases ha : D.dn r with
 | false =>
   have e2 : D.oG r = D := by unfold Wd.oG; rw [ha]; rfl
   refine ⟨14, by omega, ?_, fun wz h => h.SH fun lab a e hw => ?_, I.oG r⟩
   · rw [e2]; exact wT hr ha
   · subst e; rw [e2]; exact (JO hw ha).mono fun e w' h => h.toW
 | true =>
   obtain ⟨t, hf, hd⟩ := lg ha
   have e2 : D.oG r = D.more r := by unfold Wd.oG; rw [ha]; rfl
   have hb : t.mr.refs < 4294967295 := by have := (I.bd r t hf).1; omega
   refine ⟨36, by omega, ?_, fun wz h => h.SH fun lab a e hw => ?_, I.oG r⟩
   · rw [e2]; exact GV hf hd hb
   · subst e; rw [e2]; exact (QH hw hf hd (B.rf r t hf).1 hb B.rl).mono fun e w' h => h.toW
theorem NJ (h : lV w p q lo c D D m wr) (I : di c k D) (hN : c.N ≤ 1000) (hk : k ≤ 1000) (a r i x sp sd : Int) (hr : In64 r) (hx : In64 x) (ha : 0 ≤ a ∧ a < 7) :
   Calls Tryz.prog 15 #[.pointer (some ⟨p.a, 0, none⟩), .pointer (some ⟨q, 0, none⟩), .agg #[.int .u8 a, .int .i64 r, .int .i64 i, .int .i64 x, .int .i64 sp, .int .i64 sd]] wr
     fun e w' => e = .returned (.bool true) ∧ ∃ D', oV w p q lo c D' D' w' ∧ di c (k + 1) D' := by
 have hs := h.st.1.sit I.san
 have h4 : a = 0 ∨ a = 1 ∨ a = 2 ∨ a = 3 ∨ a = 4 ∨ a = 5 ∨ a = 6 := by omega
 rcases h4 with rfl | rfl | rfl | rfl | rfl | rfl | rfl
 · exact (Ru h I hN hk r i x sp sd).mono fun e w' ⟨⟨e1, e2⟩, e3⟩ => ⟨e1, _, e2, e3⟩
 · obtain ⟨B, D', v, hB, HP, HW, I'⟩ := LW (lo := lo) (q := q) hs I hN hk hr hx i
   exact (Rv h r i x sp sd hB HP HW).mono fun e w' ⟨e1, e2⟩ => ⟨e1, _, e2, I'⟩
 · obtain ⟨B, hB, HP, HW, I'⟩ := Lc (lo := lo) (q := q) hs I hN hr
   exact (Rw h r i x sp sd hB HP HW).mono fun e w' ⟨e1, e2⟩ => ⟨e1, _, e2, I'⟩
 · obtain ⟨B, hB, HP, HW, I'⟩ := IP (lo := lo) (q := q) hs I hN hk hr
   exact (Rx h r i x sp sd hB HP HW).mono fun e w' ⟨e1, e2⟩ => ⟨e1, _, e2, I'⟩
 · exact (Ry h hs hr i x sp sd).mono fun e w' ⟨e1, e2⟩ => ⟨e1, _, e2, I.up⟩
 · exact (Rz h hs hN r i x sp sd).mono fun e w' ⟨e1, e2⟩ => ⟨e1, _, e2, I.step.up⟩
 · exact (RA h hs hN r i x sp sd).mono fun e w' ⟨e1, e2⟩ => ⟨e1, _, e2, (I.gN _).up⟩
theorem IY (h : lV w p q lo c D D m wr) (I : di c k D) (hN : c.N ≤ 1000) (hk : k ≤ 1000) (a r i x sp sd : Int) (hr : In64 r) (ha : 7 ≤ a) :
   Calls Tryz.prog 16 #[.pointer (some ⟨p.a, 0, none⟩), .pointer (some ⟨q, 0, none⟩), .agg #[.int .u8 a, .int .i64 r, .int .i64 i, .int .i64 x, .int .i64 sp, .int .i64 sd]] wr
     fun e w' => e = .returned (.bool true) ∧ ∃ D', oV w p q lo c D' D' w' ∧ di c (k + 1) D' := by
 have hs := h.st.1.sit I.san
 have B := hs.wb hN
 have hsh := B.gT r
 have hsk : D.gT r ≤ (k : Int) := by
   unfold Wd.gT
   cases hf : D.find r with
   | none => simp
   | some t =>
     have := (I.bd r t hf).2
     simp only
     split <;> omega
 by_cases h7 : a = 7
 · subst h7
   obtain ⟨zs, hz, R⟩ := hs.ry
   exact (RB h r i x sp sd R.par).mono fun e w' ⟨e1, e2⟩ => ⟨e1, _, e2, I.turn⟩
 · by_cases h8 : a = 8
   · subst h8
     exact (RD h r i x sp sd (jW.begin_ c D i) (fun wz hz => hz.Pq i)).mono fun e w' ⟨e1, e2⟩ => ⟨e1, _, e2, I.jH i⟩
   · by_cases h9 : a = 9
     · subst h9
       exact (RF h r i x sp sd (jW.iZ c D r hr (by omega)) (fun wz hz => hz.Nn r (by omega))).mono fun e w' ⟨e1, e2⟩ => ⟨e1, _, e2, I.iZ r⟩
     · exact (PZ h a h7 h8 h9 r i x sp sd (jW.done c D r hr) (fun wz hz => hz.Ra r)).mono fun e w' ⟨e1, e2⟩ => ⟨e1, _, e2, I.done r⟩
theorem di.lq (hs : Sit c D) (I : di c k D) (hN : c.N ≤ 1000) (hW : c.W ≤ 18) (hk : k ≤ 1000) : QU D := by
 have hl := hs.lens
 have h1 := I.hd.1
 rw [List.length_map] at h1
 refine ⟨⟨by omega, by omega, fun t ht => by have := I.hd.2 t.h (List.mem_map.2 ⟨t, ht, rfl⟩); omega⟩, by omega, by omega, I.san, fun t ht => ?_⟩
 have z := hs.Na ht
 have hf := z.f
 rw [hs.wd.1] at hf
 have hw := hs.wd.2.w
 have hm : aM (c.W : Int) ≤ 10 * 17 := by
   show ((c.W : Int) - 8) * ((c.W : Int) - 1) ≤ _
   exact Int.mul_le_mul (by omega) (by omega) (by omega) (by omega)
 exact ⟨z, by omega, by omega⟩
theorem bI.c8 (h : bI wr lo q D) : wr.cell? ⟨q, 8, none⟩ = some (.int .i64 D.suspect) := by
 obtain ⟨lab, a, rfl, k⟩ := h
 exact aF.c8 k
theorem NI {w : World} {a : Option Addr} {rs : List (List mM)} (hr : yl w a [.int .u8, .int .i64, .int .i64, .int .i64, .int .i64, .int .i64] rs) {k : Nat} (hk : k < rs.length) :
   ∃ (b off : Nat) (kd r i x sp sd : Int), a = some ⟨b, off, none⟩ ∧ b < w.heap.size ∧ w.cell? ⟨b, off + k * 6, none⟩ = some (.int .u8 kd) ∧ w.cell? ⟨b, off + k * 6 + 1, none⟩ = some (.int .i64 r) ∧ w.cell? ⟨b, off + k * 6 + 2, none⟩ = some (.int .i64 i) ∧ w.cell? ⟨b, off + k * 6 + 3, none⟩ = some (.int .i64 x) ∧ w.cell? ⟨b, off + k * 6 + 4, none⟩ = some (.int .i64 sp) ∧ w.cell? ⟨b, off + k * 6 + 5, none⟩ = some (.int .i64 sd) ∧ 0 ≤ kd ∧ In64 r ∧ In64 x := by
 obtain ⟨h1, b, off, ha, hb, hc⟩ := hr k rs[k] (by simp [hk])
 generalize rs[k] = r at h1 hc
 have hl : r.length = 6 := by have := congrArg List.length h1; simpa using this
 match r, hl with
 | [f0, f1, f2, f3, f4, f5], _ =>
   simp at h1
   obtain ⟨k0, k1, k2, k3, k4, k5⟩ := h1
   have c0 := hc 0 f0 rfl
   have c1 := hc 1 f1 rfl
   have c2 := hc 2 f2 rfl
   have c3 := hc 3 f3 rfl
   have c4 := hc 4 f4 rfl
   have c5 := hc 5 f5 rfl
   cases f0 <;> simp [mM.kd] at k0
   cases f1 <;> simp [mM.kd] at k1
   cases f2 <;> simp [mM.kd] at k2
   cases f3 <;> simp [mM.kd] at k3
   cases f4 <;> simp [mM.kd] at k4
   cases f5 <;> simp [mM.kd] at k5
   subst k0 k1 k2 k3 k4 k5
   refine ⟨b, off, _, _, _, _, _, _, ha, hb, by simpa [mM.val] using c0.1, by simpa [mM.val] using c1.1, by simpa [mM.val] using c2.1, by simpa [mM.val] using c3.1, by simpa [mM.val] using c4.1, by simpa [mM.val] using c5.1, ?_, ?_, ?_⟩
   · have := c0.2
     simp [mM.ok, Lit.wf, IntKind.min, IntKind.max, IntKind.bits, IntKind.signed] at this
     omega
   · have := c1.2
     simp [mM.ok, Lit.wf, IntKind.min, IntKind.max, IntKind.bits, IntKind.signed] at this
     unfold In64
     omega
   · have := c3.2
     simp [mM.ok, Lit.wf, IntKind.min, IntKind.max, IntKind.bits, IntKind.signed] at this
     unfold In64
     omega
end
set_option maxHeartbeats 4000000 in
theorem yC (n v : Nat) (cr ck : Int) (a : Option Addr) (cap : Nat) (rs : List (List mM)) (w : World) (h0 : 1 ≤ n) (h1 : n ≤ 40) (h2 : 16 ≤ v) (h3 : v ≤ 18) (h4 : rs.length ≤ 100) (hrs : yl w a [.int .u8, .int .i64, .int .i64, .int .i64, .int .i64, .int .i64] rs) :
   Calls Tryz.prog 3 #[.agg #[.int .i64 (n : Int), .int .i64 (v : Int), .int .i64 cr, .int .i64 ck], .slice a rs.length cap] w fun e w' => e = .returned (.bool true) ∧ Below w.heap.size w w' := by
 have hm : (Cf.mk n v 1 1).May := by
   have e1 : (n : Int) * (v : Int) ≤ 40 * 18 := Int.mul_le_mul (by omega) (by omega) (by omega) (by omega)
   constructor <;> simp <;> omega
 have HO := hid (fun wz => sS AZ ⟨n, v, 1, 1⟩ wz hm (by show n ≤ 10000; omega))
 have HRs := hid hrs
 have g0 : ¬ (n : Int) < 1 := by omega
 have g1 : ¬ 40 < (n : Int) := by omega
 have g2 : ¬ (v : Int) < 16 := by omega
 have g3 : ¬ 18 < (v : Int) := by omega
 have g4 : ¬ 100 < (rs.length : Int) := by omega
 have HN : Hid (n ≤ 1000 ∧ v ≤ 18 ∧ rs.length ≤ 100) := hid ⟨by omega, h3, h4⟩
 have HI0 := hid (di.new (Cf.mk n v 1 1) (v := v) h2)
 clear hrs hm h0 h1 h2 h3 h4
 go_enter Tryz.func3, Tryz.ntmps3
 go_wp2_with fail
 have HB0 := hid (ah w (.cells #[.int .i64 (n : Int), .int .i64 (v : Int), .int .i64 1, .int .i64 1] 23))
 generalize hw0 : w.alloc (.cells #[.int .i64 (n : Int), .int .i64 (v : Int), .int .i64 1, .int .i64 1] 23) = w0 at *
 refine (HO.out w0).mono ?_
 rintro e w1 ⟨p, q, lo, rfl, hS, hW, hlo, hs1, hs2⟩
 have HS0 : Hid (oV w0 p q lo ⟨n, v, 1, 1⟩ (Wd.new n v) (Wd.new n v) w1) := hid ⟨hS, hW, hlo, hs1⟩
 clear hS hW hlo hs1 hs2
 go_wp2_with fail
 go_loopw [46] (fun i wr => ∃ k : Nat, k ≤ rs.length ∧ i = .int .i64 (k : Int) ∧ ∃ D, oV w0 p q lo ⟨n, v, 1, 1⟩ D D wr ∧ di ⟨n, v, 1, 1⟩ k D) (fun i _ => rs.length - (intOf i).toNat)
 case atStart => exact ⟨0, Nat.zero_le _, rfl, _, HS0.out, HI0.out⟩
 case round =>
   obtain ⟨k, hk, rfl, D, hS, hI⟩ := hrel
   have HI := hid hI
   have HBe : Hid (Below w.heap.size w wr) := hid (ay HB0.out hS.1.below)
   by_cases hlt : k < rs.length
   · obtain ⟨b, off, kd, r, i, x, sp, sd, rfl, hb0, x0, x1, x2, x3, x4, x5, hkd, hr, hx⟩ := NI HRs.out hlt
     have y0 := (HBe.out.cell (p := ⟨b, off + k * 6, none⟩) hb0).trans x0
     have y1 := (HBe.out.cell (p := ⟨b, off + k * 6 + 1, none⟩) hb0).trans x1
     have y2 := (HBe.out.cell (p := ⟨b, off + k * 6 + 2, none⟩) hb0).trans x2
     have y3 := (HBe.out.cell (p := ⟨b, off + k * 6 + 3, none⟩) hb0).trans x3
     have y4 := (HBe.out.cell (p := ⟨b, off + k * 6 + 4, none⟩) hb0).trans x4
     have y5 := (HBe.out.cell (p := ⟨b, off + k * 6 + 5, none⟩) hb0).trans x5
     obtain ⟨m, hM⟩ := hS.sm
     have HM := hid (hM.later (ah wr (.cells #[.int .u8 kd, .int .i64 r, .int .i64 i, .int .i64 x, .int .i64 sp, .int .i64 sd] 33)))
     have HR := hid hr
     have HX := hid hx
     have HKd := hid hkd
     have hk2 : k ≤ 1000 := by have := HN.out.2.2; omega
     clear hS hI hM hr hx hkd x0 x1 x2 x3 x4 x5 hb0
     by_cases hk7 : kd < 7
     · have HK7 := hid hk7
       go_wp2_with fail
       refine (NJ HM.out HI.out HN.out.1 hk2 kd r i x sp sd HR.out HX.out ⟨HKd.out, HK7.out⟩).mono ?_
       rintro e w3 ⟨rfl, D', hS', hI'⟩
       have HI2 := hid hI'
       have HS2 := hid hS'
       have HL := hid (di.lq (hS'.1.sit hI'.san) hI' HN.out.1 HN.out.2.1 (by omega))
       have HSu := hid (nQ (c := ⟨n, v, 1, 1⟩) (D := D'))
       have nb : ((D'.suspect == 1) != (D'.suspect == 1)) = false := by simp
       clear hI' hS' y0 y1 y2 y3 y4 y5
       go_wp2_with fail
       have HTd := hid HS2.out.drew
       go_region_with (first | (go_at_call 17; refine (qX HTd.out HL.out).mono ?_; rintro e w4 ⟨rfl, hS, hT⟩; have H4 := hid hS; have c8 := H4.out.2.1.c8; clear hS hT) | (go_at_call 18; refine (H4.out.does HSu.out).mono ?_; rintro e w5 ⟨rfl, hS, hT⟩; have H5 := hid hS; have c8 := H5.out.2.1.c8; clear hS hT))
       all_goals (go_wp2_with fail)
       all_goals
         go_roundw
         case rel => exact ⟨k + 1, by omega, by go_num, D', H5.out, HI2.out⟩
         case measure => simp [intOf]; omega
     · have HK7 : Hid (7 ≤ kd) := hid (by omega)
       go_wp2_with fail
       refine (IY HM.out HI.out HN.out.1 hk2 kd r i x sp sd HR.out HK7.out).mono ?_
       rintro e w3 ⟨rfl, D', hS', hI'⟩
       have HI2 := hid hI'
       have HS2 := hid hS'
       have HL := hid (di.lq (hS'.1.sit hI'.san) hI' HN.out.1 HN.out.2.1 (by omega))
       have HSu := hid (nQ (c := ⟨n, v, 1, 1⟩) (D := D'))
       have nb : ((D'.suspect == 1) != (D'.suspect == 1)) = false := by simp
       clear hI' hS' y0 y1 y2 y3 y4 y5
       go_wp2_with fail
       have HTd := hid HS2.out.drew
       go_region_with (first | (go_at_call 17; refine (qX HTd.out HL.out).mono ?_; rintro e w4 ⟨rfl, hS, hT⟩; have H4 := hid hS; have c8 := H4.out.2.1.c8; clear hS hT) | (go_at_call 18; refine (H4.out.does HSu.out).mono ?_; rintro e w5 ⟨rfl, hS, hT⟩; have H5 := hid hS; have c8 := H5.out.2.1.c8; clear hS hT))
       all_goals (go_wp2_with fail)
       all_goals
         go_roundw
         case rel => exact ⟨k + 1, by omega, by go_num, D', H5.out, HI2.out⟩
         case measure => simp [intOf]; omega
   · clear hS hI
     go_wp2_with fail
     refine (iP _).mono ?_
     rintro e w9 ⟨rfl, hb⟩
     have HB9 := hid (ay HBe.out hb)
     clear hb
     go_wp2_with fail
     go_ret
     exact ⟨rfl, HB9.out⟩
set_option maxHeartbeats 2000000 in
theorem yD (N V cr ck : Int) (a : Option Addr) (cap len : Nat) (w : World) (h : N < 1 ∨ 40 < N ∨ V < 16 ∨ 18 < V ∨ 100 < (len : Int)) :
   Calls Tryz.prog 3 #[.agg #[.int .i64 N, .int .i64 V, .int .i64 cr, .int .i64 ck], .slice a len cap] w fun e w' => e = .returned (.bool true) ∧ Below w.heap.size w w' := by
 by_cases g0 : N < 1
 · clear h
   go_enter Tryz.func3, Tryz.ntmps3
   go_wp2_with fail
   refine (iP _).mono ?_
   rintro e w9 ⟨rfl, hb⟩
   have HB9 := hid (ay (ah w (.cells #[.int .i64 N, .int .i64 V, .int .i64 cr, .int .i64 ck] 23)) hb)
   clear hb
   go_wp2_with fail
   go_ret
   exact ⟨rfl, HB9.out⟩
 · skip
   by_cases g1 : 40 < N
   · clear h
     go_enter Tryz.func3, Tryz.ntmps3
     go_wp2_with fail
     refine (iP _).mono ?_
     rintro e w9 ⟨rfl, hb⟩
     have HB9 := hid (ay (ah w (.cells #[.int .i64 N, .int .i64 V, .int .i64 cr, .int .i64 ck] 23)) hb)
     clear hb
     go_wp2_with fail
     go_ret
     exact ⟨rfl, HB9.out⟩
   · skip
     by_cases g2 : V < 16
     · clear h
       go_enter Tryz.func3, Tryz.ntmps3
       go_wp2_with fail
       refine (iP _).mono ?_
       rintro e w9 ⟨rfl, hb⟩
       have HB9 := hid (ay (ah w (.cells #[.int .i64 N, .int .i64 V, .int .i64 cr, .int .i64 ck] 23)) hb)
       clear hb
       go_wp2_with fail
       go_ret
       exact ⟨rfl, HB9.out⟩
     · skip
       by_cases g3 : 18 < V
       · clear h
         go_enter Tryz.func3, Tryz.ntmps3
         go_wp2_with fail
         refine (iP _).mono ?_
         rintro e w9 ⟨rfl, hb⟩
         have HB9 := hid (ay (ah w (.cells #[.int .i64 N, .int .i64 V, .int .i64 cr, .int .i64 ck] 23)) hb)
         clear hb
         go_wp2_with fail
         go_ret
         exact ⟨rfl, HB9.out⟩
       · skip
         have g4 : 100 < (len : Int) := by omega
         clear h
         go_enter Tryz.func3, Tryz.ntmps3
         go_wp2_with fail
         refine (iP _).mono ?_
         rintro e w9 ⟨rfl, hb⟩
         have HB9 := hid (ay (ah w (.cells #[.int .i64 N, .int .i64 V, .int .i64 cr, .int .i64 ck] 23)) hb)
         clear hb
         go_wp2_with fail
         go_ret
         exact ⟨rfl, HB9.out⟩
theorem yB (N V cr ck : Int) (a : Option Addr) (cap : Nat) (rs : List (List mM)) (w : World) (hrs : yl w a [.int .u8, .int .i64, .int .i64, .int .i64, .int .i64, .int .i64] rs) :
   Calls Tryz.prog 3 #[.agg #[.int .i64 N, .int .i64 V, .int .i64 cr, .int .i64 ck], .slice a rs.length cap] w fun e w' => e = .returned (.bool true) ∧ Below w.heap.size w w' := by
 by_cases h : N < 1 ∨ 40 < N ∨ V < 16 ∨ 18 < V ∨ 100 < (rs.length : Int)
 · exact yD N V cr ck a cap _ w h
 · have := yC N.toNat V.toNat cr ck a cap rs w (by omega) (by omega) (by omega) (by omega) (by omega) hrs
   rw [show (N.toNat : Int) = N by omega, show (V.toNat : Int) = V by omega] at this
   exact this
end Go.Proofs.YtbhhfnlkpieebaaGreat.Pk
