/-
  Layer 15: an object is born; the chapter's example; a nil ground.
-/
import Derived.Test.YtbhhfnlkpieebaaGreatGravNamEtc
namespace Go.Proofs.YtbhhfnlkpieebaaGreat.Pk
open Lib (hid)
open Go.RowKit
set_option linter.unusedVariables false
set_option linter.unusedSimpArgs false
set_option maxRecDepth 100000
section
variable {c : Cf} {D : Wd} {t : Th} {zs : List Int} {x y : Int} {w wr : World} {p : Pl}
structure nH (D : Wd) (x y : Int) (N : Nat) : Prop where
 san : bY D → bY (D.jF x y)
 new : D.kE x y = 0 → ∃ t, (D.jF x y).find (D.iw x y) = some t ∧ t.h = D.tX ∧ t.mr = cO.new
 fresh : D.kE x y = 0 → ∀ t, t ∈ D.live → t.h ≠ D.tX
 lt : D.kE x y = 0 → D.tX < N
theorem kQ.Ak (h : kQ w p c (D.jF x y) wr) : nH D x y c.N := by
 have hs : bY D → bY (D.jF x y) := fun S => S.jF h
 obtain ⟨zs, m, hG, hR, _⟩ := h
 have key : D.kE x y = 0 → (∃ t, (D.jF x y).find (D.iw x y) = some t ∧ t.h = D.tX ∧ t.mr = cO.new) ∧ (∀ t, t ∈ D.live → t.h ≠ D.tX) ∧ D.tX < c.N := fun h0 => by
   have eR : D.iw x y = (D.tX : Int) + 1 := by unfold Wd.iw; rw [if_pos h0]
   have eD : D.jF x y = D.made D.tX (D.clean.tail.take (D.qB x y)) (D.clean.tail.drop (D.qB x y)) x.toNat y.toNat := by unfold Wd.jF; rw [if_pos h0]
   rw [eD] at hR ⊢
   rw [eR]
   generalize D.clean.tail.take (D.qB x y) = ls at *
   generalize D.clean.tail.drop (D.qB x y) = cl at *
   have hl := iR (D := D) (b := D.tX) (ls := ls) (cl := cl) (np := x.toNat) (nd := y.toNat)
   have hm : (⟨D.tX, ints ls, jX x.toNat, jX y.toNat, false, cO.new⟩ : Th) ∈ (D.made D.tX ls cl x.toNat y.toNat).live := by rw [hl]; simp
   have hn := hR.nodup
   rw [hl, List.map_append, List.nodup_append] at hn
   exact ⟨⟨_, hR.jI hm, rfl, rfl⟩, fun t ht => hn.2.2 t.h (List.mem_map.2 ⟨t, ht, rfl⟩) D.tX (by simp), hR.hlt hm⟩
 exact ⟨hs, fun h0 => (key h0).1, fun h0 => (key h0).2.1, fun h0 => (key h0).2.2⟩
theorem wE (q : Int) (hf : D.find q = some t) (r : Int) : ∃ m : cO, (D.oQ r).find q = some { t with mr := m } ∧ m.dead = t.mr.dead ∧ m.refs = t.mr.refs := by
 unfold Wd.oQ
 rw [bZ, hf]
 by_cases e : t.at r = true
 · exact ⟨{ t.mr with color := D.parity, count := D.parity, shade := D.parity, shadow := 0 }, by simp [e], rfl, rfl⟩
 · exact ⟨t.mr, by simp [e], rfl, rfl⟩
theorem nH.RX {N : Nat} (B : nH D x y N) (S : bY D) : bY (D.born x y) := by
 unfold Wd.born
 split
 · have S1 : bY ((D.jF x y).oQ (D.iw x y)) := (B.san S).mark _ (fun _ => rfl) (fun _ => rfl) (fun _ => rfl)
   exact S1.more _
 · exact S
set_option maxHeartbeats 2000000 in
theorem NN (c : Cf) (D : Wd) (x y : Int) {wr w : World} {p : Pl} (h : kQ w p c D wr) :
   Calls Tryz.prog 41 #[.pointer (some ⟨p.a, 0, none⟩), .int .i64 x, .int .i64 y] wr fun e w' => e = .returned (.tuple #[.int .i64 (D.iw x y), .int .i64 (D.kE x y)]) ∧ kQ w p c (D.born x y) w' ∧ Touch (ak p) wr w' ∧ nH D x y c.N := by
 have HM := hid (Jc kD c D x y h)
 clear h
 by_cases hE : D.kE x y = 0
 · have hD : D.born x y = ((D.jF x y).oQ (D.iw x y)).more (D.iw x y) := by unfold Wd.born; rw [if_pos hE]
   have HE := hid hE
   rw [hE] at HM
   rw [hE, hD]
   clear hE hD
   go_enter Tryz.func41, Tryz.ntmps41
   go_wp2_with fail
   refine HM.out.mono ?_
   rintro e w1 ⟨rfl, h1, hT⟩
   have HBk := hid h1.Ak
   have HS1 := hid h1
   have HT1 := hid hT
   obtain ⟨t, hf, eh, em⟩ := HBk.out.new HE.out
   have h64 : In64 (D.iw x y) := by
     obtain ⟨zs, m, hG, hR, _⟩ := h1
     exact jb hG.may hR hf
   obtain ⟨m, hf2, _, em2⟩ := wE (D.iw x y) hf (D.iw x y)
   have HDy := hid ((jW.oQ c (D.jF x y) (D.iw x y) h64).as (vb (show ((D.jF x y).find (D.iw x y)).isSome = true by rw [hf]; rfl)) rfl)
   have HMo := hid (AA (c := c) hf2 (by show m.refs < _; rw [em2, em]; decide))
   clear h1 hT hf hf2
   go_wp2_with fail
   refine (HS1.out.does HDy.out).mono ?_
   rintro e w2 ⟨rfl, h2, hT2⟩
   have HS2 := hid h2
   have HT2 := hid (HT1.out.trans hT2)
   clear h2 hT2
   go_wp2_with fail
   refine (HS2.out.does HMo.out).mono ?_
   rintro e w3 ⟨rfl, h3, hT3⟩
   have HS3 := hid h3
   have HT3 := hid (HT2.out.trans hT3)
   clear h3 hT3
   go_wp2_with fail
   go_ret2
   exact ⟨rfl, HS3.out, HT3.out, HBk.out⟩
 · have hD : D.born x y = D.jF x y := by unfold Wd.born Wd.jF; rw [if_neg hE, if_neg hE]
   have hR : D.iw x y = 0 := by unfold Wd.iw; rw [if_neg hE]
   have hEb : (D.kE x y != 0) = true := by rw [bne_iff_ne]; exact hE
   rw [hR] at HM
   rw [hD, hR]
   clear hE hD hR
   go_enter Tryz.func41, Tryz.ntmps41
   go_wp2_with fail
   refine HM.out.mono ?_
   rintro e w1 ⟨rfl, h1, hT⟩
   have HBk := hid h1.Ak
   have HS1 := hid h1
   have HT1 := hid hT
   clear h1 hT
   go_wp2_with fail
   go_ret2
   exact ⟨rfl, HS1.out, HT1.out, HBk.out⟩
end
def bx1 : Wd := (Wd.new 2 16).born 1 0
def QN : Wd := bx1.put 1 0 1 0
def Nj : Wd := QN.less 1
def SS (k : Int) : Th := ⟨0, [], [0], [], false, ⟨k, 0, 0, 0, 0, false, 0, 0⟩⟩
theorem wB : bx1.find 1 = some (SS 1) := by rfl
theorem Cc : QN.find 1 = some ⟨0, [], [1], [], false, ⟨2, 0, 0, 0, 0, false, 0, 0⟩⟩ := by rfl
theorem Ce : Nj.find 1 = some ⟨0, [], [1], [], false, ⟨1, 0, 0, 0, 0, false, 0, 0⟩⟩ := by rfl
theorem bY.RI {D : Wd} {r x y : Int} {i : Nat} {t : Th} (S : bY D) (hf : D.find r = some t) (hd : t.mr.dead = false) : bY (D.put r i x y) := by
 have S1 : bY (D.bQ r i x) := by
   unfold Wd.bQ
   split
   · exact S.aI hf i (fun h => by rw [hd] at h; cases h)
   · obtain ⟨m, h1, h2⟩ := qC r hf x
     exact (S.more x).aI h1 i (fun h => by have : m.dead = true := h; rw [h2, hd] at this; cases this)
 unfold Wd.put Wd.vK
 split
 · exact (S1.touch y).less y
 · exact S1
set_option maxHeartbeats 2000000 in
theorem iP (w : World) : Calls Tryz.prog 13 #[] w fun e w' => e = .returned (.bool true) ∧ Below w.heap.size w w' := by
 go_enter Tryz.func13, Tryz.ntmps13
 go_wp2_with fail
 refine (FL AZ 2 _ (by decide) (by decide)).mono ?_
 rintro e w0 ⟨p, q, lo, rfl, h, _, _, _, _⟩
 have HB := hid (NN (EM 2) (Wd.new 2 16) 1 0 h)
 rw [show (Wd.new 2 16).iw 1 0 = 1 by decide, show (Wd.new 2 16).kE 1 0 = 0 by decide, show (Wd.new 2 16).born 1 0 = bx1 from rfl] at HB
 clear h
 go_wp2_with fail
 refine HB.out.mono ?_
 rintro e w1 ⟨rfl, h, _, hOk⟩
 have S1 : bY bx1 := hOk.RX (bY.new 2 (by decide))
 have S2 : bY QN := S1.RI wB rfl
 have S3 : bY Nj := S2.less 1
 have H1 := hid h
 have HQ1 := hid ((nQ (c := EM 2) (D := bx1)).as (vb (show (bx1.suspect == 1) = false by decide)) rfl)
 have HP := hid (Fp (c := EM 2) (x := 1) (i := 0) S1 wB rfl (by decide) (.inr ⟨_, wB, rfl, by decide⟩) (by decide) (by decide))
 have HC2 := hid ((EZ (c := EM 2) (D := QN) (CO 1)).as (vi (show QN.cnt 1 = 2 by unfold Wd.cnt; rw [Cc])) rfl)
 have HL := hid (KY (c := EM 2) Cc rfl (by decide) (by decide) (by decide))
 have HG := hid (PQ (c := EM 2) S3 Ce rfl 0)
 have HC3 := hid ((EZ (c := EM 2) (D := Nj) (CO 1)).as (vi (show Nj.cnt 1 = 1 by unfold Wd.cnt; rw [Ce])) rfl)
 have HPd := hid ((EX (c := EM 2) (D := Nj)).as (vi (show Nj.pending = 0 by decide)) rfl)
 have HQ3 := hid ((nQ (c := EM 2) (D := Nj)).as (vb (show (Nj.suspect == 1) = true by decide)) rfl)
 clear h hOk S1 S2 S3
 go_wp2_with fail
 refine (H1.out.does HQ1.out).mono ?_
 rintro e w2 ⟨rfl, h, _⟩
 have H2 := hid h
 clear h
 go_wp2_with fail
 refine (H2.out.does HP.out).mono ?_
 rintro e w3 ⟨rfl, h, _⟩
 have H3 : Hid (kQ w p (EM 2) QN w3) := hid h
 clear h
 go_wp2_with fail
 refine (H3.out.does HC2.out).mono ?_
 rintro e w4 ⟨rfl, h, _⟩
 have H4 := hid h
 clear h
 go_wp2_with fail
 refine (H4.out.does HL.out).mono ?_
 rintro e w5 ⟨rfl, h, _⟩
 have H5 : Hid (kQ w p (EM 2) Nj w5) := hid h
 clear h
 go_wp2_with fail
 refine (H5.out.does HG.out).mono ?_
 rintro e w6 ⟨rfl, h, _⟩
 have H6 := hid h
 clear h
 go_wp2_with fail
 refine (H6.out.does HC3.out).mono ?_
 rintro e w7 ⟨rfl, h, _⟩
 have H7 := hid h
 clear h
 go_wp2_with fail
 refine (H7.out.does HPd.out).mono ?_
 rintro e w8 ⟨rfl, h, _⟩
 have H8 := hid h
 clear h
 go_wp2_with fail
 refine (H8.out.does HQ3.out).mono ?_
 rintro e w9 ⟨rfl, h, _⟩
 have H9 := hid h
 clear h
 go_wp2_with fail
 go_ret
 exact ⟨rfl, H9.out.below⟩
end Go.Proofs.YtbhhfnlkpieebaaGreat.Pk
