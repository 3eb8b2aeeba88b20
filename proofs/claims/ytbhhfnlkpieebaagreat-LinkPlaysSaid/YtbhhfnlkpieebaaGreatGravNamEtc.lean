/-
  Texts laid together: GravNam, RefG, RefG2, GravCnt, GraveLaw, GravGrow, LinkW, GravNamed, LinkFn, LinkDo.
-/
import Derived.Test.YtbhhfnlkpieebaaGreatActsWzEtc
import Derived.Test.YtbhhfnlkpieebaaGreatRefMkEtc
import Derived.Test.YtbhhfnlkpieebaaGreatTintFn4Etc
import Derived.Test.YtbhhfnlkpieebaaGreatPoolFn
import Derived.Test.YtbhhfnlkpieebaaGreatRingFn3
import Derived.Test.YtbhhfnlkpieebaaGreatObjFn4Etc
namespace Go.Proofs.YtbhhfnlkpieebaaGreat.Pk
open Lib (hid)
open Go.RowKit
set_option linter.unusedVariables false
set_option linter.unusedSimpArgs false
set_option maxRecDepth 100000
section
variable {D D' : Wd} {r : Int} {t s u : Th} {g : Th → Th} {φ : Th → Nat}
theorem zW {f g : Th → Th} (hf : ∀ t, (f t).ended = t.ended ∧ (f t).h = t.h) : ∀ l : List Th, bU r g (bU r f l) = bU r (fun t => g (f t)) l
 | [] => rfl
 | u :: l => by
   have hat : (f u).at r = u.at r := by unfold Th.at; rw [(hf u).1, (hf u).2]
   simp only [bU]
   cases h : u.at r with
   | true => simp [bU, hat, h]
   | false => simp [bU, h, zW hf l]
theorem zT (r : Int) {f : cO → cO} (h : ∀ t : Th, φ { t with mr := f t.mr } = φ t) : fU φ (D.mark r f).ts = fU φ D.ts := by
 cases hf : D.find r with
 | none => rw [ek f hf]
 | some t =>
   have := tL (φ := φ) (g := fun t => { t with mr := f t.mr }) (t := t) hf (dD hf).2.1
   rw [h] at this
   show fU φ (bU r (fun t => { t with mr := f t.mr }) D.ts) = _
   omega
theorem GI (i : Nat) (x : Int) : (D.drain r i x).w = D.w ∧ (D.drain r i x).n = D.n ∧ (D.drain r i x).clean = D.clean := by
 have key : ∀ D2 : Wd, (if (D2.down x).cnt x = 0 then (D2.down x).bW x else D2.down x).w = D2.w ∧ (if (D2.down x).cnt x = 0 then (D2.down x).bW x else D2.down x).n = D2.n ∧ (if (D2.down x).cnt x = 0 then (D2.down x).bW x else D2.down x).clean = D2.clean := fun D2 => by
   split
   · exact ⟨(uf x).2.2, (uf x).2.1, (uf x).1⟩
   · exact ⟨rfl, rfl, rfl⟩
 unfold Wd.drain
 by_cases hc : (D.aI r i 0).cnt x = 0
 · rw [if_pos hc]; exact ⟨rfl, rfl, rfl⟩
 · rw [if_neg hc]
   obtain ⟨k1, k2, k3⟩ := key (if (D.aI r i 0).counted r i then (D.aI r i 0).aJ x else D.aI r i 0)
   refine ⟨k1.trans ?_, k2.trans ?_, k3.trans ?_⟩ <;> split <;> first | rfl | exact (gV (D := D.aI r i 0) x).2.2.2.2.2.2 | exact (gV (D := D.aI r i 0) x).2.2.2.2.2.1 | exact (gV (D := D.aI r i 0) x).2.2.2.2.1
theorem ze (S : bY D) {l : Int} (h : 0 < l) : D.ahead l = (l - 1) * ((D.w : Int) - 1) := by unfold Wd.ahead; rw [if_pos h]
theorem ahead_zero : D.ahead 0 = 0 := by unfold Wd.ahead; rw [if_neg (by omega)]; omega
theorem bY.head (S : bY D) {q : Nat} {rest : List Nat} (hg : D.grave = q :: rest) : ∃ t, t ∈ D.live ∧ t.h + 1 = q ∧ D.find (q : Int) = some t ∧ t.mr.dead = true ∧ Sj D.w t ∧ D.step = D.work q rest t := by
 obtain ⟨t, htl, e⟩ := S.gv q (by rw [hg]; simp)
 have hf : D.find (q : Int) = some t := by have := S.jI htl; rwa [show ((t.h : Int) + 1) = (q : Int) by omega] at this
 have hk := S.ok t htl
 have hd : t.mr.dead = true := hk.iff_.2 (by rw [e, hg]; simp)
 refine ⟨t, htl, e, hf, hd, hk.dead hd, ?_⟩
 unfold Wd.step
 rw [hg]
 simp only [hf]
theorem Cm (r : Int) (j b : Nat) (k : Int) : ((D.gu r j b).mark r (fun m => { m with leaves := k })).ts = bU r (fun s => { s with lv := s.lv.set j (-1), mr := { s.mr with leaves := k } }) D.ts :=
 zW (f := fun t => { t with lv := t.lv.set j (-1) }) (g := fun t => { t with mr := { t.mr with leaves := k } }) (fun _ => ⟨rfl, rfl⟩) D.ts
theorem bY.step (S : bY D) : bY D.step := by
 cases hg : D.grave with
 | nil => unfold Wd.step; rw [hg]; exact S
 | cons q rest =>
   obtain ⟨t, htl, e, hf, hd, d, es⟩ := S.head hg
   have hk := S.ok t htl
   have hw := S.w
   rw [es]
   unfold Wd.work
   by_cases ha : D.ahead t.mr.leaves < t.mr.left
   · have h0 : 0 ≤ D.ahead t.mr.leaves := by
       unfold Wd.ahead
       refine Int.mul_nonneg ?_ (by omega)
       split <;> omega
     rw [if_pos ha]
     have S1 := S.drain hf (t.mr.left - 1).toNat (nth t.pt (t.mr.left - 1).toNat)
     obtain ⟨f, hf1, k1, k2, k3⟩ := rD hf hd (t.mr.left - 1).toNat (nth t.pt (t.mr.left - 1).toNat)
     have hw1 := (GI (D := D) (r := (q : Int)) (t.mr.left - 1).toNat (nth t.pt (t.mr.left - 1).toNat)).1
     have kk := S1.ok _ (aC hf1).1
     refine S1.upd (g := fun s => { s with mr := { s.mr with left := t.mr.left - 1 } }) hf1 (dD hf1).2.1 rfl rfl rfl rfl ⟨⟨kk.vS.small, kk.vS.big⟩, kk.iff_, fun _ => ?_, fun h => by rw [show _ = true from k1] at h; cases h⟩ (fun b hb => .inl hb) rfl
     have dd := kk.dead k1
     refine ⟨dd.l0, dd.l1, ?_, ?_, fun hl => ?_, dd.there, dd.gone, fun i hi => ?_⟩
     · show 0 ≤ t.mr.left - 1; omega
     · show t.mr.left - 1 ≤ _
       have := dd.f1
       have e2 : (f t.mr).left = t.mr.left := k2
       have e3 : (f t.mr).left ≤ ((t.pt.set (t.mr.left - 1).toNat 0).length : Int) := this
       rw [e2] at e3
       show t.mr.left - 1 ≤ ((t.pt.set (t.mr.left - 1).toNat 0).length : Int)
       omega
     · have h1 := dd.fl hl
       have h2 : (f t.mr).left ≤ (f t.mr).leaves * (((D.drain (q : Int) (t.mr.left - 1).toNat (nth t.pt (t.mr.left - 1).toNat)).w : Int) - 1) := h1
       rw [k2] at h2
       show t.mr.left - 1 ≤ (f t.mr).leaves * _
       omega
     · have hi' : t.mr.left - 1 ≤ (i : Int) := hi
       show nth (t.pt.set (t.mr.left - 1).toNat 0) i = 0
       by_cases ei : (t.mr.left - 1).toNat = i
       · rw [ei]
         by_cases hlt : i < t.pt.length
         · rw [aZ hlt]
         · rw [dL (by simp; omega)]
       · rw [ax ei]
         exact d.zero i (by omega)
   · rw [if_neg ha]
     by_cases hl : 0 < t.mr.leaves
     · rw [if_pos hl]
       have hp : dC t = 1 + t.mr.leaves.toNat := by unfold dC; rw [hd, if_pos rfl]
       have hlen : ((t.mr.leaves - 1).toNat : Nat) < t.lv.length := by have := d.l1; omega
       have hfl : t.mr.left ≤ (t.mr.leaves - 1) * ((D.w : Int) - 1) := by rw [← ze S hl]; omega
       refine S.upd (g := fun s => { s with lv := s.lv.set (t.mr.leaves - 1).toNat (-1), mr := { s.mr with leaves := t.mr.leaves - 1 } }) hf (dD hf).2.1 rfl (Cm _ _ _ _) rfl rfl ⟨⟨fun h => ?_, fun h => ?_⟩, hk.iff_, fun _ => ⟨?_, ?_, d.f0, d.f1, fun _ => hfl, fun j hj => ?_, fun j hj hj2 => ?_, d.zero⟩, fun h => by rw [show _ = true from hd] at h; cases h⟩ (fun b hb => .inl hb) ?_
       · have := hk.vS.small h
         rw [this] at hlen
         simp at hlen
       · have := hk.vS.big h
         refine ⟨?_, by simpa using this.2⟩
         show t.lv.set (t.mr.leaves - 1).toNat (-1) ≠ []
         intro hx
         have := congrArg List.length hx
         simp at this
         rw [this] at hlen
         simp at hlen
       · show 0 ≤ t.mr.leaves - 1; omega
       · show t.mr.leaves - 1 ≤ ((t.lv.set (t.mr.leaves - 1).toNat (-1)).length : Int)
         have := d.l1
         simp
         omega
       · have hj' : (j : Int) < t.mr.leaves - 1 := hj
         show ∃ b : Nat, (t.lv.set (t.mr.leaves - 1).toNat (-1))[j]? = some (b : Int)
         rw [List.getElem?_set_ne (by omega)]
         exact d.there j (by omega)
       · have hj' : t.mr.leaves - 1 ≤ (j : Int) := hj
         have hj2' : j < t.lv.length := by simpa using hj2
         show (t.lv.set (t.mr.leaves - 1).toNat (-1))[j]? = some (-1)
         by_cases ej : (t.mr.leaves - 1).toNat = j
         · rw [ej, List.getElem?_set_self hj2']
         · rw [List.getElem?_set_ne ej]
           exact d.gone j (by omega) hj2'
       · have hp2 : dC ({ t with lv := t.lv.set (t.mr.leaves - 1).toNat (-1), mr := { t.mr with leaves := t.mr.leaves - 1 } }) = 1 + (t.mr.leaves - 1).toNat := by
           unfold dC
           simp [hd]
         show D.pending - 1 + (dC t : Int) = D.pending + (dC ({ t with lv := t.lv.set (t.mr.leaves - 1).toNat (-1), mr := { t.mr with leaves := t.mr.leaves - 1 } }) : Int)
         rw [hp, hp2]
         omega
     · rw [if_neg hl]
       have hl0 : t.mr.leaves = 0 := by have := d.l0; omega
       have hlive : (({ D with grave := rest } : Wd).kg (q : Int) t.h).live = D.live.filter (fun s => s.h != t.h) := ji (g := fun s => { s with ended := true }) (fun _ => rfl) S.nd hf
       have hmem : ∀ s, s ∈ D.live.filter (fun s => s.h != t.h) → s ∈ D.live ∧ s.h ≠ t.h := fun s hs => by
         have := List.mem_filter.1 hs
         exact ⟨this.1, by simpa using this.2⟩
       have hnd := S.gd
       rw [hg, List.nodup_cons] at hnd
       have hsum := Eb (φ := dC) (g := fun s => { s with ended := true }) hf rfl
       have hp : dC t = 1 := by unfold dC; rw [hd, if_pos rfl, hl0]; rfl
       show bY { ({ D with grave := rest } : Wd).kg (q : Int) t.h with pending := D.pending - 1 }
       refine ⟨S.w, ?_, hnd.2, fun g hg' => ?_, fun s hs => ?_, fun s hs hr => ?_, ?_⟩
       · show ((({ D with grave := rest } : Wd).kg (q : Int) t.h).live.map Th.h).Nodup
         rw [hlive]
         exact S.nd.sublist (List.Sublist.map _ List.filter_sublist)
       · obtain ⟨u, hu, e2⟩ := S.gv g (by rw [hg]; exact List.mem_cons_of_mem _ hg')
         refine ⟨u, ?_, e2⟩
         show u ∈ (({ D with grave := rest } : Wd).kg (q : Int) t.h).live
         rw [hlive]
         refine List.mem_filter.2 ⟨hu, ?_⟩
         have : u.h ≠ t.h := fun ex => hnd.1 (by rw [← e, ← ex, e2]; exact hg')
         simpa using this
       · have hs' : s ∈ (({ D with grave := rest } : Wd).kg (q : Int) t.h).live := hs
         rw [hlive] at hs'
         obtain ⟨h1, h2⟩ := hmem s hs'
         have k := S.ok s h1
         refine ⟨k.vS, ?_, k.dead, k.alive⟩
         show s.mr.dead = true ↔ s.h + 1 ∈ rest
         rw [k.iff_, hg, List.mem_cons]
         exact ⟨fun h => by rcases h with h | h; exact absurd (by omega) h2; exact h, fun h => .inr h⟩
       · have hs' : s ∈ (({ D with grave := rest } : Wd).kg (q : Int) t.h).live := hs
         rw [hlive] at hs'
         exact S.ring s (hmem s hs').1 hr
       · show D.pending - 1 = (fU dC (bU (q : Int) (fun s => { s with ended := true }) D.ts) : Int)
         have := S.pend
         omega
end
section
variable {w w' : World} {lo : Nat} {lab : Nat → Nat} {a : WA} {D : Wd} {i : Nat} {t t' : Th} {x : TA} {n v b : Nat} {cl : List Nat} {ts : List Th}
theorem aF.LV {K : Nat} (h : aF w lo lab a D) (ht : D.ts[i]? = some t) (hx : a.tas[i]? = some x) (T : fo lo lab K w w') (hs : w'.heap.size = w.heap.size) (hK : K = 7 + 5 * i ∨ K = 9 + 5 * i ∨ K = 10 + 5 * i ∨ K = 11 + 5 * i) (hT : BJ w' lo lab i t' x) (hh : t'.h = t.h) (hm : t'.mr = t.mr) :
   aF w' lo lab a { D with ts := D.ts.set i t' } := by
 have hi := (List.getElem?_eq_some_iff.1 ht).1
 refine ⟨⟨h.h.hb.touch T (fun h4 => by have := h4.2.2; have := h.h.lh.2; omega), h.h.lh, by simpa using h.h.len, by simpa using bN h.h.tv T (fun g hg h4 => by have := h4.2.2; have := (h.h.ltv g hg).2; omega), fun g hg => ⟨by rw [hs]; exact (h.h.ltv g hg).1, (h.h.ltv g hg).2⟩, fun j s y hsj hy => ?_, h.h.crow.touch T (h.h.lca.out (fun b _ _ h3 h4 => by have := h4.2.2; omega)), h.h.lca.le T.size, fun s hsm => by
     rcases List.mem_or_eq_of_mem_set hsm with g | rfl
     · exact h.h.bd s g
     · rw [hh]; exact h.h.bd t (List.mem_of_getElem? ht)⟩, h.wb.touch T (fun h4 => by have := h4.2.2; have := h.lq.2; omega), h.lq, by simpa using bN h.mv T (fun g hg h4 => by have := h4.2.2; have := (h.lmv g hg).2; omega), fun g hg => ⟨by rw [hs]; exact (h.lmv g hg).1, (h.lmv g hg).2⟩, fun j s y hsj hy => ?_, h.rg.touch T (h.lra.out (fun b _ _ h3 h4 => by have := h4.2.2; omega)), h.lra.le T.size, h.gv.touch T (h.lga.out (fun b _ _ h3 h4 => by have := h4.2.2; omega)), h.lga.le T.size⟩
 · by_cases hj : j = i
   · subst hj
     simp [hi] at hsj
     subst hsj
     rw [hx] at hy
     cases hy
     exact hT
   · rw [List.getElem?_set_ne (Ne.symm hj)] at hsj
     exact (h.h.th j s y hsj hy).touch T (fun b _ _ h3 h4 => by have := h4.2.2; omega)
 · by_cases hj : j = i
   · subst hj
     simp [hi] at hsj
     subst hsj
     obtain ⟨g1, g2, g3⟩ := h.mb j t y ht hy
     rw [hm]
     exact ⟨g1.touch T (fun h4 => by have := h4.2.2; omega), g2, g3⟩
   · rw [List.getElem?_set_ne (Ne.symm hj)] at hsj
     obtain ⟨g1, g2, g3⟩ := h.mb j s y hsj hy
     exact ⟨g1.touch T (fun h4 => by have := h4.2.2; omega), g2, g3⟩
theorem aF.mZ (h : aF w lo lab a D) (ht : D.ts[i]? = some t) (hx : a.tas[i]? = some x) {k : Nat} (hk : k < t.pt.length) :
   ∃ b, x.pa = some ⟨b, 0, none⟩ ∧ b < w.heap.size ∧ w.cell? ⟨b, k, none⟩ = some (.int .i64 (nth t.pt k)) ∧ w.frozen? ⟨b, k, none⟩ = false ∧ lo ≤ b ∧
     ∀ z : Int, aF (w.setCell ⟨b, k, none⟩ (.int .i64 z)) lo lab a { D with ts := D.ts.set i { t with pt := t.pt.set k z } } := by
 have hT := h.h.th i t x ht hx
 obtain ⟨b, hpa, hb, hc, hf⟩ := hT.pt.at hk
 obtain ⟨l1, l2, l3⟩ := hT.lpa (by omega) b 0 hpa
 refine ⟨b, hpa, hb, hc, hf, l1, fun z => ?_⟩
 have T : fo lo lab (10 + 5 * i) w (w.setCell ⟨b, k, none⟩ (.int .i64 z)) := fo.cell l1 l3 _
 have ho : dY w .i64 (some ⟨b, 0, none⟩) t.pt := by rw [← hpa]; exact hT.pt
 have hp : dY (w.setCell ⟨b, k, none⟩ (.int .i64 z)) .i64 x.pa (t.pt.set k z) := by rw [hpa]; exact ho.set hk z
 refine h.LV ht hx T (by simp) (.inr (.inr (.inl rfl))) ⟨?_, hT.lv.touch T (hT.lla.out (fun b _ _ h3 h4 => by have := h4.2.2; omega) rfl), hp, hT.dt.touch T (hT.lda.out (fun b _ _ h3 h4 => by have := h4.2.2; omega) rfl), hT.ltb, hT.lla.le T.size, by simpa using hT.lpa.le T.size, hT.lda.le T.size⟩ rfl rfl
 have := hT.tb.touch T (fun h4 => by have := h4.2.2; have := hT.ltb.2; omega)
 simpa [Th.cells] using this
theorem aF.Po (h : aF w lo lab a D) (ht : D.ts[i]? = some t) (hx : a.tas[i]? = some x) {k : Nat} (hk : k < t.lv.length) :
   ∃ b, x.la = some ⟨b, 0, none⟩ ∧ b < w.heap.size ∧ w.cell? ⟨b, k, none⟩ = some (.int .i64 (nth t.lv k)) ∧ w.frozen? ⟨b, k, none⟩ = false ∧ lo ≤ b ∧
     ∀ z : Int, aF (w.setCell ⟨b, k, none⟩ (.int .i64 z)) lo lab a { D with ts := D.ts.set i { t with lv := t.lv.set k z } } := by
 have hT := h.h.th i t x ht hx
 obtain ⟨b, hla, hb, hc, hf⟩ := hT.lv.at hk
 obtain ⟨l1, l2, l3⟩ := hT.lla (by omega) b 0 hla
 refine ⟨b, hla, hb, hc, hf, l1, fun z => ?_⟩
 have T : fo lo lab (9 + 5 * i) w (w.setCell ⟨b, k, none⟩ (.int .i64 z)) := fo.cell l1 l3 _
 have ho : dY w .i64 (some ⟨b, 0, none⟩) t.lv := by rw [← hla]; exact hT.lv
 have hp : dY (w.setCell ⟨b, k, none⟩ (.int .i64 z)) .i64 x.la (t.lv.set k z) := by rw [hla]; exact ho.set hk z
 refine h.LV ht hx T (by simp) (.inr (.inl rfl)) ⟨?_, hp, hT.pt.touch T (hT.lpa.out (fun b _ _ h3 h4 => by have := h4.2.2; omega) rfl), hT.dt.touch T (hT.lda.out (fun b _ _ h3 h4 => by have := h4.2.2; omega) rfl), hT.ltb, by simpa using hT.lla.le T.size, hT.lpa.le T.size, hT.lda.le T.size⟩ rfl rfl
 have := hT.tb.touch T (fun h4 => by have := h4.2.2; have := hT.ltb.2; omega)
 simpa [Th.cells] using this
theorem aF.Qs (h : aF w lo lab a D) (ht : D.ts[i]? = some t) (hx : a.tas[i]? = some x) : aF (w.setCell ⟨x.tb, 4, none⟩ (.bool true)) lo lab a { D with ts := D.ts.set i { t with ended := true } } := by
 have hT := h.h.th i t x ht hx
 have T : fo lo lab (7 + 5 * i) w (w.setCell ⟨x.tb, 4, none⟩ (.bool true)) := fo.cell hT.ltb.1 hT.ltb.2 _
 exact h.LV ht hx T (by simp) (.inl rfl) ⟨hT.tb.put 4 _ rfl, hT.lv.touch T (hT.lla.out (fun b _ _ h3 h4 => by have := h4.2.2; omega) rfl), hT.pt.touch T (hT.lpa.out (fun b _ _ h3 h4 => by have := h4.2.2; omega) rfl), hT.dt.touch T (hT.lda.out (fun b _ _ h3 h4 => by have := h4.2.2; omega) rfl), hT.ltb, hT.lla.le T.size, hT.lpa.le T.size, hT.lda.le T.size⟩ rfl rfl
theorem aF.RY (h : aF w lo lab a D) {ca : Option Addr} {cc : Nat} {l : List Nat} (hr : Row w .i64 ca (ints l)) (hL : qO w lo lab ca l.length 4) :
   aF (w.setCell ⟨a.hb, 2, none⟩ (.slice ca l.length cc)) lo lab { a with ca := ca, cc := cc } { D with clean := l } := by
 have T : fo lo lab 1 w (w.setCell ⟨a.hb, 2, none⟩ (.slice ca l.length cc)) := fo.cell h.h.lh.1 h.h.lh.2 _
 have H := h.h.DT (cc := cc) hr hL
 have R := h.rest.touch T (fun b _ _ h3 h4 => by
   have := h4.2.2
   rcases h3 with h3 | h3 | h3 | h3 | ⟨j, _, h3⟩ <;> omega)
 exact ⟨H, R.wb, R.lq, R.mv, R.lmv, R.mb, R.rg, R.lra, R.gv, R.lga⟩
theorem aF.Cj {w1 : World} (h : aF w lo lab a D) (hb : Below w.heap.size w w1) {ca : Option Addr} (cc : Nat) {l : List Nat} (hr : Row w1 .i64 ca (ints l)) (hf : ∀ b off, ca = some ⟨b, off, none⟩ → w.heap.size ≤ b) :
   ∃ lab', aF (w1.setCell ⟨a.hb, 2, none⟩ (.slice ca l.length cc)) lo lab' { a with ca := ca, cc := cc } { D with clean := l } := by
 have hlo : lo ≤ w.heap.size := Nat.le_of_lt (Nat.lt_of_le_of_lt h.lq.1 h.wb.lt)
 obtain ⟨lab', h1, h2⟩ := AR (lab := lab) hr hf hlo 4
 exact ⟨lab', ((h.re h1).later hb).RY hr h2⟩
theorem aF.qI {w1 : World} (h : aF w lo lab a D) (hb : Below w.heap.size w w1) {ra : Option Addr} (rc : Nat) {l : List Nat} (hr : Row w1 .i64 ra (ints l)) (hf : ∀ b off, ra = some ⟨b, off, none⟩ → w.heap.size ≤ b) :
   ∃ lab', aF (w1.setCell ⟨a.q, 11, none⟩ (.slice ra l.length rc)) lo lab' { a with ra := ra, rc := rc } { D with ring := l } := by
 have hlo : lo ≤ w.heap.size := Nat.le_of_lt (Nat.lt_of_le_of_lt h.lq.1 h.wb.lt)
 obtain ⟨lab', h1, h2⟩ := AR (lab := lab) hr hf hlo 5
 exact ⟨lab', ((h.re h1).later hb).Oy hr h2⟩
theorem aF.pE {w1 : World} (h : aF w lo lab a D) (hb : Below w.heap.size w w1) {ga : Option Addr} (gc : Nat) {l : List Nat} (hr : Row w1 .i64 ga (ints l)) (hf : ∀ b off, ga = some ⟨b, off, none⟩ → w.heap.size ≤ b) :
   ∃ lab', aF (w1.setCell ⟨a.q, 12, none⟩ (.slice ga l.length gc)) lo lab' { a with ga := ga, gc := gc } { D with grave := l } := by
 have hlo : lo ≤ w.heap.size := Nat.le_of_lt (Nat.lt_of_le_of_lt h.lq.1 h.wb.lt)
 obtain ⟨lab', h1, h2⟩ := AR (lab := lab) hr hf hlo 6
 exact ⟨lab', ((h.re h1).later hb).Mj hr h2⟩
def wo (w : World) (lo : Nat) (a : WA) (D' : Wd) (v : Value) (e : Ending) (w' : World) : Prop := e = .returned v ∧ (∃ lab' a', WA.q a' = a.q ∧ a'.hb = a.hb ∧ a'.tas = a.tas ∧ aF w' lo lab' a' D') ∧ Touch (fun b => lo ≤ b) w w'
theorem wo.toW {D' : Wd} {v : Value} {e : Ending} (h : wo w lo a D' v e w') : eF w lo a.q D' v e w' := by
 obtain ⟨h1, ⟨lab', a', e1, _, _, h2⟩, h3⟩ := h
 exact ⟨h1, ⟨lab', a', e1, h2⟩, h3⟩
end
section
variable {w w' : World} {lo : Nat} {lab : Nat → Nat} {a : WA} {D : Wd} {i : Nat} {t t' : Th} {x : TA} {n v b : Nat} {cl : List Nat} {ts : List Th}
theorem KQ (h : aF w lo lab a D) (r : Int) :
   Calls Tryz.prog 74 #[.pointer (some ⟨a.hb, 0, none⟩), .int .i64 r] w fun e w' => e = .returned (a.tp (D.ix r)) ∧ w = w' := by
 have c3 := h.h.c3
 obtain ⟨⟨om, capm, hmv⟩, hmx⟩ := iT h.h.tv
 have HMX : Hid (D.ts.length ≤ maxLen) := hid hmx
 have HMV := hid hmv
 rw [hmv] at c3
 have H := hid h
 clear h hmx hmv
 go_enter Tryz.func74, Tryz.ntmps74
 go_wp2_with fail
 go_loop [5] (fun i => ∃ k : Nat, k ≤ D.ts.length ∧ i = .int .i64 (k : Int) ∧ ∀ (j : Nat) u, j < k → D.ts[j]? = some u → u.at r = false) (fun i => D.ts.length - (intOf i).toNat)
 case atStart => exact ⟨0, Nat.zero_le _, rfl, fun j u h => absurd h (by omega)⟩
 case round =>
   obtain ⟨k, hk, rfl, hno⟩ := hrel
   have HN := hid hno
   clear hno
   by_cases hlt : k < D.ts.length
   · obtain ⟨t, ht⟩ : ∃ t, D.ts[k]? = some t := ⟨_, List.getElem?_eq_getElem hlt⟩
     obtain ⟨x, hx⟩ := H.out.h.at ht
     obtain ⟨g, cap, htv, ct⟩ := H.out.h.QC ht hx
     rw [HMV.out] at htv
     obtain ⟨rfl, _, rfl⟩ : om = some ⟨g, 0, none⟩ ∧ D.ts.length = D.ts.length ∧ capm = cap := by simpa using htv
     have hT := H.out.h.th k t x ht hx
     have d0 := hT.c0
     have d4 := hT.c4
     have hbd := H.out.h.bd t (List.mem_of_getElem? ht)
     have hwr : IntKind.i64.wrap ((t.h : Int) + 1) = (t.h : Int) + 1 := IntWalk.i64_in _ (by omega)
     have hlx := HMX.out
     unfold maxLen at hlx
     have HT := hid ht
     have HX := hid hx
     clear hT hbd ht hx htv
     cases hen : t.ended with
     | true =>
       rw [hen] at d4
       have HA := hid (Cb (r := r) hen)
       clear hen
       go_wp2_with fail
       go_round
       case rel => exact ⟨k + 1, by omega, by go_num, fun j u hj hu => by
         by_cases e : j = k
         · subst e; rw [HT.out] at hu; cases hu; exact HA.out
         · exact HN.out j u (by omega) hu⟩
       case measure => simp [intOf]; omega
     | false =>
       rw [hen] at d4
       by_cases he : (t.h : Int) + 1 = r
       · have E : Hid (a.tp (D.ix r) = .pointer (some ⟨x.tb, 0, none⟩)) := hid (by
           rw [show D.ix r = some k from wQ HT.out (at_eq hen he) (fun j u hj hu => HN.out j u hj hu)]
           simp [WA.tp, HX.out])
         have hb := vH he
         clear he hen
         go_wp2_with fail
         go_ret
         exact ⟨by rw [E.out]; rfl, rfl⟩
       · have HA := hid (OY (t := t) (r := r) he)
         have hb := bD he
         clear he hen
         go_wp2_with fail
         go_round
         case rel => exact ⟨k + 1, by omega, by go_num, fun j u hj hu => by
           by_cases e : j = k
           · subst e; rw [HT.out] at hu; cases hu; exact HA.out
           · exact HN.out j u (by omega) hu⟩
         case measure => simp [intOf]; omega
   · have E : Hid (D.ix r = none) := hid (wP.2 (fun u hu => by
       obtain ⟨j, hj⟩ := List.mem_iff_getElem?.1 hu
       exact HN.out j u (by have := (List.getElem?_eq_some_iff.1 hj).1; omega) hj))
     go_wp2_with fail
     go_ret
     exact ⟨by rw [E.out]; rfl, rfl⟩
theorem IL (h : aF w lo lab a D) {r : Int} (hf : D.find r = none) :
   Calls Tryz.prog 74 #[.pointer (some ⟨a.hb, 0, none⟩), .int .i64 r] w fun e w' => e = .returned (.pointer none) ∧ w = w' := by
 have := KQ h r
 rw [show D.ix r = none from ui hf] at this
 exact this
theorem bB (h : aF w lo lab a D) {r : Int} (hi : D.ix r = some i) (hx : a.tas[i]? = some x) :
   Calls Tryz.prog 74 #[.pointer (some ⟨a.hb, 0, none⟩), .int .i64 r] w fun e w' => e = .returned (.pointer (some ⟨x.tb, 0, none⟩)) ∧ w = w' := by
 have := KQ h r
 rw [hi] at this
 simp only [WA.tp, hx] at this
 exact this
theorem jy (h : aF w lo lab a D) (r : Int) :
   Calls Tryz.prog 87 #[.pointer (some ⟨a.q, 0, none⟩), .int .i64 r] w fun e w' => e = .returned (.int .i64 (D.cnt r)) ∧ w = w' := by
 cases hf : D.find r with
 | none =>
   have HC := hid (gZ h hf)
   have E : Hid (D.cnt r = 0) := hid (by unfold Wd.cnt; rw [hf])
   clear h hf
   go_enter Tryz.func87, Tryz.ntmps87
   go_wp2_with fail
   refine HC.out.mono ?_
   rintro e w1 ⟨rfl, rfl⟩
   go_wp2_with fail
   go_ret
   exact ⟨bG E.out.symm, rfl⟩
 | some t =>
   obtain ⟨i, x, hi, ht, hx⟩ := h.found hf
   have HC := hid (bz h hi hx)
   have E : Hid (D.cnt r = t.mr.refs) := hid (by unfold Wd.cnt; rw [hf])
   have m0 := h.m0 ht hx
   clear h hf hi ht hx
   go_enter Tryz.func87, Tryz.ntmps87
   go_wp2_with fail
   refine HC.out.mono ?_
   rintro e w1 ⟨rfl, rfl⟩
   go_wp2_with fail
   go_ret
   exact ⟨bG E.out.symm, rfl⟩
theorem Sg (h : aF w lo lab a D) {r : Int} (hf : D.find r = some t) (h0 : 0 ≤ t.mr.refs) (h1 : t.mr.refs < 4294967295) :
   Calls Tryz.prog 129 #[.pointer (some ⟨a.q, 0, none⟩), .int .i64 r] w fun e w' => e = .returned (.tuple #[.int .i64 (t.mr.refs + 1), .bool true]) ∧ aF w' lo lab a (D.up r) ∧ Touch (fun b => lo ≤ b) w w' := by
 obtain ⟨i, x, hi, ht, hx⟩ := h.found hf
 have HC := hid (bz h hi hx)
 have HR : Hid (aF (w.setCell ⟨x.mb, 0, none⟩ (.int .i64 (t.mr.refs + 1))) lo lab a (D.up r)) := hid (h.kM (f := fun m => { m with refs := m.refs + 1 }) hi ht hx (k := 0) (u := .int .i64 (t.mr.refs + 1)) rfl)
 have HT := hid (oW h ht hx 0 (.int .i64 (t.mr.refs + 1)))
 have m0 := h.m0 ht hx
 have fz0 := (h.mb i t x ht hx).1.free 0
 have hne : (t.mr.refs == 4294967295) = false := by rw [beq_eq_false_iff_ne]; omega
 have hwr : IntKind.i64.wrap (t.mr.refs + 1) = t.mr.refs + 1 := IntWalk.i64_in _ (by omega)
 clear h hf hi ht hx
 go_enter Tryz.func129, Tryz.ntmps129
 go_wp2_with fail
 refine HC.out.mono ?_
 rintro e w1 ⟨rfl, rfl⟩
 go_wp2_with fail
 go_ret2
 exact ⟨rfl, HR.out, HT.out⟩
theorem xX (h : aF w lo lab a D) {r : Int} (hf : D.find r = some t) (h0 : 0 < t.mr.refs) (h1 : t.mr.refs ≤ 4294967295) :
   Calls Tryz.prog 185 #[.pointer (some ⟨a.q, 0, none⟩), .int .i64 r] w fun e w' => e = .returned (.tuple #[.int .i64 (t.mr.refs - 1), .bool true]) ∧ aF w' lo lab a (D.down r) ∧ Touch (fun b => lo ≤ b) w w' := by
 obtain ⟨i, x, hi, ht, hx⟩ := h.found hf
 have HC := hid (bz h hi hx)
 have HR : Hid (aF (w.setCell ⟨x.mb, 0, none⟩ (.int .i64 (t.mr.refs - 1))) lo lab a (D.down r)) := hid (h.kM (f := fun m => { m with refs := m.refs - 1 }) hi ht hx (k := 0) (u := .int .i64 (t.mr.refs - 1)) rfl)
 have HT := hid (oW h ht hx 0 (.int .i64 (t.mr.refs - 1)))
 have m0 := h.m0 ht hx
 have fz0 := (h.mb i t x ht hx).1.free 0
 have hne : (t.mr.refs == 0) = false := by rw [beq_eq_false_iff_ne]; omega
 have hwr : IntKind.i64.wrap (t.mr.refs - 1) = t.mr.refs - 1 := IntWalk.i64_in _ (by omega)
 clear h hf hi ht hx
 go_enter Tryz.func185, Tryz.ntmps185
 go_wp2_with fail
 refine HC.out.mono ?_
 rintro e w1 ⟨rfl, rfl⟩
 go_wp2_with fail
 go_ret2
 exact ⟨rfl, HR.out, HT.out⟩
def eP (v : Nat) (t : Th) (k : Nat) : Bool := !decide (t.pt.length + t.dt.length ≤ v - 8) && decide (nth t.lv (k / (v - 1)) < 0)
structure EE (v : Nat) (t : Th) : Prop where
 w0 : 16 ≤ v
 w1 : v ≤ 256
 f : ((t.pt.length + t.dt.length : Nat) : Int) ≤ aM (v : Int)
 big : ¬ t.pt.length + t.dt.length ≤ v - 8 → t.pt.length + t.dt.length ≤ t.lv.length * (v - 1)
theorem EE.small (z : EE v t) : t.pt.length + t.dt.length ≤ 65536 := by
 have h1 := z.f
 have h2 : aM (v : Int) = ((v : Int) - 8) * ((v : Int) - 1) := rfl
 have h3 : ((v : Int) - 8) * ((v : Int) - 1) ≤ 248 * 255 := Int.mul_le_mul (by have := z.w1; omega) (by have := z.w1; omega) (by have := z.w0; omega) (by omega)
 omega
theorem EE.leaf (z : EE v t) (hb : ¬ t.pt.length + t.dt.length ≤ v - 8) {k : Nat} (hk : k < t.pt.length + t.dt.length) : k / (v - 1) < t.lv.length := by
 have := z.big hb
 have := z.w0
 rw [Nat.div_lt_iff_lt_mul (by omega)]
 omega
theorem KR (h : aF w lo lab a D) (ht : D.ts[i]? = some t) (hx : a.tas[i]? = some x) (z : EE D.w t) {k : Nat} (hk : k < t.pt.length + t.dt.length) :
   Calls Tryz.prog 133 #[.pointer (some ⟨a.hb, 0, none⟩), .pointer (some ⟨x.tb, 0, none⟩), .int .i64 (k : Int)] w fun e w' => e = .returned (.bool (eP D.w t k)) ∧ fe w w' := by
 have hT := h.h.th i t x ht hx
 have c1 := h.h.c1
 have d1 := hT.c1
 have d2 := hT.c2
 have d3 := hT.c3
 have hs := z.small
 have hw0 := z.w0
 have hw1 := z.w1
 have hwe : bR (D.w : Int) ((t.pt.length : Int) + t.dt.length) = 0 := zY (by omega) (by omega) (by omega) (by have := z.f; omega)
 have hpe := qE hwe (i := (k : Int)) (by omega) (by omega)
 have hwr : IntKind.i64.wrap ((t.pt.length : Int) + (t.dt.length : Int)) = (t.pt.length : Int) + (t.dt.length : Int) := IntWalk.i64_in _ (by omega)
 have HC := hid (fun w => DL (D.w : Int) ((t.pt.length : Int) + t.dt.length) (k : Int) w)
 by_cases hb : t.pt.length + t.dt.length ≤ D.w - 8
 · have e := (mq hpe (by omega)).1
   have E : Hid (eP D.w t k = false) := hid (by unfold eP; simp [hb])
   unfold iH at HC
   rw [e] at HC
   generalize fT _ _ _ = o1 at HC
   clear h hT z hwe hpe e hb hk hs hw0 hw1
   go_enter Tryz.func133, Tryz.ntmps133
   go_wp2_with fail
   go_quiet ((go_at_call 187; exact (HC.out _).mono (fun e w' ⟨h1, m, h2⟩ => ⟨h1, _, h2.trans (World.drewN_drewN _ _ _)⟩)))
   go_wp2_with fail
   go_ret
   exact ⟨aK E.out.symm, ⟨_, by first | rfl | simp [World.drewN_drewN]⟩⟩
 · have hlt := z.leaf hb hk
   have e := (qG hpe (by omega)).1
   have e2 : (k : Int) / ((D.w : Int) - 1) = ((k / (D.w - 1) : Nat) : Int) := by
     rw [show (D.w : Int) - 1 = ((D.w - 1 : Nat) : Int) by omega]
     exact (Int.natCast_ediv _ _).symm
   have E : Hid (eP D.w t k = decide (nth t.lv (k / (D.w - 1)) < 0)) := hid (by unfold eP; simp [hb])
   unfold iH at HC
   rw [e, e2] at HC
   obtain ⟨bb, hla, hbb, hcc, _⟩ := hT.lv.at hlt
   have hl2 : t.lv.length ≤ maxLen ∨ True := .inr trivial
   rw [hla] at d1
   generalize k / (D.w - 1) = j at *
   generalize fT _ _ _ = o1 at HC
   clear h hT z hwe hpe e e2 hb hk hs hw0 hw1 hla hl2
   go_enter Tryz.func133, Tryz.ntmps133
   go_wp2_with fail
   go_quiet ((go_at_call 187; exact (HC.out _).mono (fun e w' ⟨h1, m, h2⟩ => ⟨h1, _, h2.trans (World.drewN_drewN _ _ _)⟩)))
   go_wp2_with fail
   go_ret
   exact ⟨aK E.out.symm, ⟨_, by first | rfl | simp [World.drewN_drewN]⟩⟩
theorem CG (h : aF w lo lab a D) {r : Int} (hf : D.find r = none) (k : Int) :
   Calls Tryz.prog 73 #[.pointer (some ⟨a.hb, 0, none⟩), .int .i64 r, .int .i64 k, .bool false] w fun e w' => e = .returned (.int .i64 8) ∧ w = w' := by
 have HC := hid (IL h hf)
 clear h hf
 go_enter Tryz.func73, Tryz.ntmps73
 go_wp2_with fail
 refine HC.out.mono ?_
 rintro e w1 ⟨rfl, rfl⟩
 go_wp2_with fail
 go_ret
 exact ⟨rfl, rfl⟩
theorem uX (h : aF w lo lab a D) {r : Int} (hf : D.find r = some t) {k : Int} (hk : ¬ (0 ≤ k ∧ k < (t.pt.length : Int))) :
   Calls Tryz.prog 73 #[.pointer (some ⟨a.hb, 0, none⟩), .int .i64 r, .int .i64 k, .bool false] w fun e w' => e = .returned (.int .i64 7) ∧ w = w' := by
 obtain ⟨i, x, hi, ht, hx⟩ := h.found hf
 have HC := hid (bB h hi hx)
 have d2 := (h.h.th i t x ht hx).c2
 clear h hf hi ht hx
 by_cases h0 : k < 0
 · clear hk
   go_enter Tryz.func73, Tryz.ntmps73
   go_wp2_with fail
   refine HC.out.mono ?_
   rintro e w1 ⟨rfl, rfl⟩
   go_wp2_with fail
   go_ret
   exact ⟨rfl, rfl⟩
 · have h1 : (t.pt.length : Int) ≤ k := by omega
   clear hk
   go_enter Tryz.func73, Tryz.ntmps73
   go_wp2_with fail
   refine HC.out.mono ?_
   rintro e w1 ⟨rfl, rfl⟩
   go_wp2_with fail
   go_ret
   exact ⟨rfl, rfl⟩
theorem jJ (h : aF w lo lab a D) {r : Int} (hf : D.find r = some t) (z : EE D.w t) {k : Nat} (hk : k < t.pt.length) :
   Calls Tryz.prog 73 #[.pointer (some ⟨a.hb, 0, none⟩), .int .i64 r, .int .i64 (k : Int), .bool false] w fun e w' => e = .returned (.int .i64 (if eP D.w t k then 7 else 0)) ∧ fe w w' := by
 obtain ⟨i, x, hi, ht, hx⟩ := h.found hf
 have HC := hid (bB h hi hx)
 have HS := hid (KR h ht hx z (k := k) (by omega))
 have d2 := (h.h.th i t x ht hx).c2
 have hs := z.small
 have hwr : IntKind.i64.wrap (0 + (k : Int)) = (k : Int) := by rw [Int.zero_add]; exact IntWalk.i64_in _ (by omega)
 have hwr2 : IntKind.i64.wrap ((k : Int)) = (k : Int) := IntWalk.i64_in _ (by omega)
 clear h hf hi ht hx z hs
 cases hb : eP D.w t k with
 | true =>
   rw [hb] at HS
   clear hb
   go_enter Tryz.func73, Tryz.ntmps73
   go_wp2_with fail
   refine HC.out.mono ?_
   rintro e w1 ⟨rfl, rfl⟩
   go_wp2_with fail
   refine HS.out.mono ?_
   rintro e w1 ⟨rfl, m, rfl⟩
   go_wp2_with fail
   go_ret
   exact ⟨rfl, _, rfl⟩
 | false =>
   rw [hb] at HS
   clear hb
   go_enter Tryz.func73, Tryz.ntmps73
   go_wp2_with fail
   refine HC.out.mono ?_
   rintro e w1 ⟨rfl, rfl⟩
   go_wp2_with fail
   refine HS.out.mono ?_
   rintro e w1 ⟨rfl, m, rfl⟩
   go_wp2_with fail
   go_ret
   exact ⟨rfl, _, rfl⟩
end
def QY (y : Int) : List Int → Nat
 | [] => 0
 | a :: l => (if a = y then 1 else 0) + QY y l
def Pf (y : Int) (t : Th) : Nat := QY y t.pt
structure EH (hold : Nat → Nat) (D : Wd) : Prop where
 cnt : ∀ t, t ∈ D.live → t.mr.refs = ((hold t.h + fU (Pf ((t.h : Int) + 1)) D.ts : Nat) : Int)
 good : ∀ t, t ∈ D.live → ∀ i, i < t.pt.length → nth t.pt i = 0 ∨ ∃ u, u ∈ D.live ∧ (u.h : Int) + 1 = nth t.pt i
 jX : ∀ t, t ∈ D.live → t.mr.dead = true → t.mr.refs = 0
section
variable {D D' : Wd} {r : Int} {t s u : Th} {hold : Nat → Nat}
theorem EH.of (N : EH hold D) (h1 : ∀ s, s ∈ D'.live → ∃ u, u ∈ D.live ∧ s.h = u.h ∧ s.mr.refs = u.mr.refs ∧ s.pt = u.pt ∧ (s.mr.dead = true → u.mr.dead = true ∨ u.mr.refs = 0)) (h2 : D'.live.map Th.h = D.live.map Th.h) (h3 : ∀ y, fU (Pf y) D'.ts = fU (Pf y) D.ts) : EH hold D' := by
 refine ⟨fun s hs => ?_, fun s hs i hi => ?_, fun s hs hd => ?_⟩
 · obtain ⟨u, hu, e1, e2, e3, e4⟩ := h1 s hs
   rw [e1, e2, h3]
   exact N.cnt u hu
 · obtain ⟨u, hu, e1, e2, e3, e4⟩ := h1 s hs
   rw [e3] at hi ⊢
   rcases N.good u hu i hi with h | ⟨v, hv, h⟩
   · exact .inl h
   · obtain ⟨v', k1, k2⟩ := jU h2 hv
     exact .inr ⟨v', k1, by rw [k2]; exact h⟩
 · obtain ⟨u, hu, e1, e2, e3, e4⟩ := h1 s hs
   rw [e2]
   rcases e4 hd with h | h
   · exact N.jX u hu h
   · exact h
theorem FH (r : Int) (f : cO → cO) : (D.mark r f).live.map Th.h = D.live.map Th.h := by
 cases hf : D.find r with
 | none => rw [ek f hf]
 | some t => exact lU (g := fun t => { t with mr := f t.mr }) hf (dD hf).2.1 rfl
theorem Jd (S : bY D) {f : cO → cO} (hs : s ∈ (D.mark r f).live) : ∃ u, u ∈ D.live ∧ (s = u ∨ s = { u with mr := f u.mr }) := by
 cases hf : D.find r with
 | none => rw [ek f hf] at hs; exact ⟨s, hs, .inl rfl⟩
 | some t =>
   rcases jw (g := fun t => { t with mr := f t.mr }) S.nd hf hs with rfl | ⟨h, _⟩
   · exact ⟨t, (aC hf).1, .inr rfl⟩
   · exact ⟨s, h, .inl rfl⟩
theorem EH.mark (N : EH hold D) (S : bY D) (r : Int) {f : cO → cO} (h1 : ∀ m, (f m).refs = m.refs) (h2 : ∀ m, (f m).dead = m.dead) : EH hold (D.mark r f) := by
 refine N.of (fun s hs => ?_) (FH r f) (fun y => zT r (fun t => rfl))
 obtain ⟨u, hu, rfl | rfl⟩ := Jd S hs
 · exact ⟨s, hu, rfl, rfl, rfl, fun h => .inl h⟩
 · exact ⟨u, hu, rfl, h1 _, rfl, fun h => .inl (by rw [← h2]; exact h)⟩
structure QV (hold : Nat → Nat) (x : Int) (D : Wd) : Prop where
 cnt : ∀ t, t ∈ D.live → t.mr.refs = ((hold t.h + fU (Pf ((t.h : Int) + 1)) D.ts + (if (t.h : Int) + 1 = x then 1 else 0) : Nat) : Int)
 good : ∀ t, t ∈ D.live → ∀ i, i < t.pt.length → nth t.pt i = 0 ∨ ∃ u, u ∈ D.live ∧ (u.h : Int) + 1 = nth t.pt i
 jX : ∀ t, t ∈ D.live → t.mr.dead = true → t.mr.refs = 0
 there : x = 0 ∨ ∃ u, u ∈ D.live ∧ (u.h : Int) + 1 = x
theorem QV.none (N : QV hold 0 D) : EH hold D := ⟨fun t ht => by have := N.cnt t ht; rw [if_neg (by omega)] at this; simpa using this, N.good, N.jX⟩
end
theorem bY.new (n : Nat) {w : Nat} (h : 16 ≤ w) : bY (Wd.new n w) := ⟨h, by simp [Wd.live, Wd.new, dh], by simp [Wd.new], fun g hg => absurd hg (by simp [Wd.new]), fun t ht => absurd ht (by simp [Wd.live, Wd.new, dh]), fun t ht => absurd ht (by simp [Wd.live, Wd.new, dh]), rfl⟩
theorem vD {φ : Th → Nat} : ∀ (l k : List Th), fU φ (l ++ k) = fU φ l + fU φ k
 | [], k => by simp [fU, dh]
 | u :: l, k => by rw [List.cons_append, dM, dM, vD l k]; omega
theorem aL.vS {c : Cf} {zs : List Int} {D : Wd} {t : Th} (R : aL c zs D) (hm : c.May) (ht : t ∈ D.live) : Geo D.w t := by
 have hA := R.heap.bK t.ob (R.bP ht)
 have hw := hm.w
 have hW := R.w
 have ef : t.ob.f = t.pt.length + t.dt.length := rfl
 have el : t.ob.lv.length = t.lv.length := by unfold Th.ob; simp
 refine ⟨fun h => ?_, fun h => ?_⟩
 · have := hA.small (by rw [ef]; rw [hW] at h; exact h) hm
   have h2 : t.lv.length = 0 := by rw [← el, this]; rfl
   exact List.length_eq_zero_iff.1 h2
 · have hb : ¬ t.ob.f ≤ c.W - 8 := by rw [ef]; rw [hW] at h; exact h
   have hl := hA.lvs
   obtain ⟨_, _, h3, _⟩ := jL (W := c.W) (n := t.ob.f) (by omega) (by omega) (by omega) hA.size
   rw [← hl] at h3
   have h4 : t.ob.f ≤ t.ob.lv.length * (c.W - 1) := by
     have : ((t.ob.lv.length * (c.W - 1) : Nat) : Int) = (t.ob.lv.length : Int) * ((c.W : Int) - 1) := by rw [Int.natCast_mul]; congr 1; omega
     omega
   rw [el, ef] at h4
   refine ⟨fun e => ?_, by rw [hW]; exact h4⟩
   have h5 : t.lv.length = 0 := by rw [e]; rfl
   rw [h5, Nat.zero_mul] at h4
   omega
theorem bY.made {c : Cf} {zs : List Int} {D : Wd} {b np nd : Nat} {ls cl : List Nat} (S : bY D) (R : aL c zs (D.made b ls cl np nd)) (hm : c.May) : bY (D.made b ls cl np nd) := by
 have hlive := iR (D := D) (b := b) (ls := ls) (cl := cl) (np := np) (nd := nd)
 have hg : (D.made b ls cl np nd).grave = D.grave := rfl
 have hmem : ∀ t, t ∈ D.live → t ∈ (D.made b ls cl np nd).live := fun t ht => by rw [hlive]; exact List.mem_append_left _ ht
 have hnew : (⟨b, ints ls, jX np, jX nd, false, cO.new⟩ : Th) ∈ (D.made b ls cl np nd).live := by rw [hlive]; simp
 refine ⟨S.w, R.nodup, S.gd, fun g hg => ?_, fun t ht => ?_, fun t ht hr => ?_, ?_⟩
 · obtain ⟨u, hu, e⟩ := S.gv g hg
   exact ⟨u, hmem u hu, e⟩
 · have hgeo := R.vS hm ht
   rw [hlive] at ht
   rcases List.mem_append.1 ht with h | h
   · have k := S.ok t h
     exact ⟨hgeo, k.iff_, k.dead, k.alive⟩
   · obtain rfl := List.mem_singleton.1 h
     refine ⟨hgeo, ⟨fun h => (by cases h), fun h => ?_⟩, fun h => (by cases h), fun _ j hj => ?_⟩
     · have := (R.bur _ hnew h).1
       exact this
     · have hj' : j < ls.length := by simpa [ints] using hj
       exact ⟨ls[j], by show (ints ls)[j]? = _; unfold ints; simp [hj']⟩
 · rw [hlive] at ht
   rcases List.mem_append.1 ht with h | h
   · exact S.ring t h hr
   · obtain rfl := List.mem_singleton.1 h
     rfl
 · have h1 := S.pend
   have h2 : fU dC (D.ts ++ [(⟨b, ints ls, jX np, jX nd, false, cO.new⟩ : Th)]) = fU dC D.ts := by
     rw [vD, dM]
     simp [dC, cO.new, fU, dh]
   show D.pending = (fU dC (D.ts ++ [_]) : Int)
   rw [h1, h2]
theorem bY.jF {c : Cf} {D : Wd} {x y : Int} (S : bY D) {w wr : World} {p : Pl} (h : kQ w p c (D.jF x y) wr) : bY (D.jF x y) := by
 obtain ⟨zs, m, hG, hR, hp, hB⟩ := h
 unfold Wd.jF at hR ⊢
 split
 · rename_i h0
   rw [if_pos h0] at hR
   exact S.made hR hG.may
 · exact S
section
variable {D D' : Wd} {r x : Int} {t s u : Th} {g : Th → Th} {f : cO → cO} {hold : Nat → Nat} {φ : Th → Nat} {c : Cf} {zs : List Int}
theorem qM (hg : ∀ t, (g t).h = t.h) (r : Int) : ∀ l : List Th, (bU r g l).map Th.h = l.map Th.h
 | [] => rfl
 | u :: l => by
   unfold bU
   split
   · simp [hg]
   · simp [qM hg r l]
theorem iE (r : Int) (f : cO → cO) : (D.mark r f).ts.map Th.h = D.ts.map Th.h := qM (g := fun t => { t with mr := f t.mr }) (fun _ => rfl) r D.ts
theorem tC (r : Int) (i : Nat) (x : Int) : (D.aI r i x).ts.map Th.h = D.ts.map Th.h := qM (g := fun t => { t with pt := t.pt.set i x }) (fun _ => rfl) r D.ts
theorem GD (x : Int) : (D.bW x).ts.map Th.h = D.ts.map Th.h := by
 unfold Wd.bW
 cases D.find x with
 | none => rfl
 | some t =>
   simp only
   split
   · rfl
   · rw [uo]
     exact qM (g := fun s => { s with mr := { s.mr with dead := true, left := (t.pt.length : Int), leaves := (t.lv.length : Int) } }) (fun _ => rfl) x D.ts
theorem KX (x : Int) : (D.inter x).ts.map Th.h = D.ts.map Th.h := by
 unfold Wd.inter
 split
 · exact GD x
 · rfl
theorem Fu (x : Int) : (D.aJ x).ts.map Th.h = D.ts.map Th.h := by
 unfold Wd.aJ
 split
 · exact iE x _
 · rfl
theorem KC (r : Int) (i : Nat) (x : Int) : (D.drain r i x).ts.map Th.h = D.ts.map Th.h := by
 have key : ∀ D2 : Wd, D2.ts.map Th.h = D.ts.map Th.h → (if (D2.down x).cnt x = 0 then (D2.down x).bW x else D2.down x).ts.map Th.h = D.ts.map Th.h := fun D2 h => by
   split
   · rw [GD]; exact (iE x _).trans h
   · exact (iE x _).trans h
 unfold Wd.drain
 by_cases hc : (D.aI r i 0).cnt x = 0
 · rw [if_pos hc]; exact tC r i 0
 · rw [if_neg hc]
   refine key _ ?_
   split
   · rw [Fu]; exact tC r i 0
   · exact tC r i 0
theorem Oz : D.step.ts.map Th.h = D.ts.map Th.h := by
 unfold Wd.step
 split
 · rfl
 · split
   · rfl
   · rename_i _ q rest _ _ t _
     unfold Wd.work
     split
     · exact (iE _ _).trans (KC _ _ _)
     · split
       · show ((D.gu (q : Int) (t.mr.leaves - 1).toNat (nth t.lv (t.mr.leaves - 1).toNat).toNat).mark (q : Int) (fun m => { m with leaves := t.mr.leaves - 1 })).ts.map Th.h = _
         rw [iE]
         exact qM (g := fun s => { s with lv := s.lv.set (t.mr.leaves - 1).toNat (-1) }) (fun _ => rfl) _ D.ts
       · exact qM (g := fun s => { s with ended := true }) (fun _ => rfl) _ D.ts
def Wd.Ir (D : Wd) : List Int := D.ts.map (fun t => (t.h : Int) + 1)
theorem CV : ∀ {l : List Th}, (∀ t, t ∈ l → t.ended = false) → dh l = l
 | [], _ => rfl
 | u :: l, h => by rw [aT, h u (by simp), if_neg (by simp), CV (fun t ht => h t (List.mem_cons_of_mem _ ht))]
structure OT (N : Nat) (D : Wd) (k : Nat) : Prop where
 san : bY D
 nam : EH (fun _ => 0) D
 bd : ∀ y : Int, y ≠ 0 → fU (Pf y) D.ts ≤ k
 gr : D.grave = []
 nd : (D.ts.map Th.h).Nodup
 all : ∀ t, t ∈ D.ts → t.ended = false
 lt : ∀ t, t ∈ D.ts → t.h < N
theorem OT.upd {N k k2 : Nat} (G : OT N D k) (S : bY D') (Nm : EH (fun _ => 0) D') (hb : ∀ y : Int, y ≠ 0 → fU (Pf y) D'.ts ≤ k2) (hgr : D'.grave = []) (hhd : D'.ts.map Th.h = D.ts.map Th.h) (hall : ∀ t, t ∈ D'.ts → t.ended = false) : OT N D' k2 :=
 ⟨S, Nm, hb, hgr, by rw [hhd]; exact G.nd, hall, fun t ht => by
   have : t.h ∈ D.ts.map Th.h := by rw [← hhd]; exact List.mem_map.2 ⟨t, ht, rfl⟩
   obtain ⟨u, hu, e⟩ := List.mem_map.1 this
   rw [← e]
   exact G.lt u hu⟩
theorem Ew (hg : ∀ t, (g t).ended = t.ended) (r : Int) : ∀ {l : List Th}, (∀ t, t ∈ l → t.ended = false) → ∀ t, t ∈ bU r g l → t.ended = false
 | [], _, t, ht => by simp [bU] at ht
 | u :: l, h, t, ht => by
   unfold bU at ht
   split at ht
   · rcases List.mem_cons.1 ht with rfl | ht
     · rw [hg]; exact h u (by simp)
     · exact h t (List.mem_cons_of_mem _ ht)
   · rcases List.mem_cons.1 ht with rfl | ht
     · exact h t (by simp)
     · exact Ew hg r (fun s hs => h s (List.mem_cons_of_mem _ hs)) t ht
theorem OT.oQ {N k : Nat} (G : OT N D k) (r : Int) : OT N (D.oQ r) k :=
 G.upd (G.san.mark r (fun _ => rfl) (fun _ => rfl) (fun _ => rfl)) (G.nam.mark G.san r (fun _ => rfl) (fun _ => rfl)) (fun y hy => by
   have : fU (Pf y) (D.oQ r).ts = fU (Pf y) D.ts := zT r (fun t => rfl)
   rw [this]; exact G.bd y hy) G.gr (iE r _) (Ew (g := fun t => { t with mr := { t.mr with color := D.parity, count := D.parity, shade := D.parity, shadow := 0 } }) (fun _ => rfl) r G.all)
theorem OT.at {N k : Nat} (G : OT N D k) {j : Nat} (hj : j < D.Ir.length) : ∃ t, t ∈ D.live ∧ nth D.Ir j = (t.h : Int) + 1 ∧ D.find (nth D.Ir j) = some t := by
 have hl : j < D.ts.length := by unfold Wd.Ir at hj; simpa using hj
 have e : nth D.Ir j = (D.ts[j].h : Int) + 1 := by
   unfold nth Wd.Ir
   rw [List.getD_eq_getElem?_getD]
   simp [hl]
 have hm : D.ts[j] ∈ D.live := by unfold Wd.live; rw [CV G.all]; exact List.getElem_mem hl
 refine ⟨D.ts[j], hm, e, ?_⟩
 rw [e]
 exact G.san.jI hm
end
section
variable (D : Wd) (r : Int)
def Wd.dn : Bool := (D.find r).isSome && !D.dead r
def Wd.more : Wd := (D.up r).touch r
def Wd.rA : Wd := { D with suspect := 1 }
def Wd.less : Wd := (D.down r).rA.inter r
def Wd.bQ (i : Nat) (x : Int) : Wd := (if x = 0 then D else D.more x).aI r i x
def Wd.vK (y : Int) : Wd := if 0 < D.cnt y then (D.touch y).less y else D
def Wd.put (i : Nat) (x y : Int) : Wd := (D.bQ r i x).vK y
def Wd.born (x y : Int) : Wd := if D.kE x y = 0 then ((D.jF x y).oQ (D.iw x y)).more (D.iw x y) else D
end
section
variable {D D' : Wd} {r x y : Int} {t s u : Th} {hold hold' : Nat → Nat}
theorem bi (hf : D.find r = some t) : D.dn r = !t.mr.dead := by unfold Wd.dn Wd.dead; rw [hf]; rfl
theorem oZ (hf : D.find r = none) : D.dn r = false := by unfold Wd.dn; rw [hf]; rfl
theorem lg (h : D.dn r = true) : ∃ t, D.find r = some t ∧ t.mr.dead = false := by
 cases hf : D.find r with
 | none => rw [oZ hf] at h; cases h
 | some t => rw [bi hf] at h; exact ⟨t, rfl, by simpa using h⟩
theorem nu (r : Int) : (D.touch r).ts = D.ts ∨ (D.touch r).ts = (D.jG r).ts := by
 unfold Wd.touch
 split
 · exact .inr rfl
 · exact .inl rfl
theorem xO (r : Int) : (D.touch r).clean = D.clean ∧ (D.touch r).grave = D.grave ∧ (D.touch r).pending = D.pending ∧ (D.touch r).n = D.n ∧ (D.touch r).w = D.w ∧ (D.touch r).suspect = D.suspect := by
 unfold Wd.touch
 split <;> exact ⟨rfl, rfl, rfl, rfl, rfl, rfl⟩
theorem Gf (q : Int) (r : Int) : (D.touch r).find q = D.find q ∨ (D.touch r).find q = (D.find q).map (fun t => if t.at r then { t with mr := { t.mr with color := D.parity } } else t) := by
 rcases nu (D := D) r with h | h
 · left
   unfold Wd.find
   rw [h]
 · right
   have : (D.touch r).find q = (D.jG r).find q := by unfold Wd.find; rw [h]
   rw [this]
   exact pz (D := D) (r := r) (g := fun t => { t with mr := { t.mr with color := D.parity } }) (fun t => ⟨rfl, rfl⟩) q
theorem ou (q : Int) (hf : D.find q = some t) (r : Int) : ∃ k, (D.touch r).find q = some { t with mr := { t.mr with color := k } } := by
 rcases Gf (D := D) q r with h | h
 · exact ⟨t.mr.color, by rw [h, hf]⟩
 · rw [h, hf]
   by_cases e : t.at r = true
   · exact ⟨D.parity, by simp [e]⟩
   · exact ⟨t.mr.color, by simp [e]⟩
theorem bY.jG (S : bY D) (r : Int) : bY (D.jG r) := S.mark r (fun _ => rfl) (fun _ => rfl) (fun _ => rfl)
theorem bY.touch (S : bY D) (r : Int) : bY (D.touch r) := by
 unfold Wd.touch
 split
 · rename_i h
   have S1 := S.jG r
   refine S1.tu rfl rfl rfl rfl (fun b hb => ?_)
   have hb : b ∈ (if hasB (ints D.ring) (r - 1) then D.ring else D.ring ++ [(r - 1).toNat]) := hb
   split at hb
   · exact .inl hb
   · rcases List.mem_append.1 hb with hb | hb
     · exact .inl hb
     · right
       intro s hs e
       unfold Wd.bO at h
       cases hf : D.find r with
       | none => rw [hf] at h; cases h
       | some t =>
         rw [hf] at h
         simp at h
         have hr := (aC hf).2
         have hb := List.mem_singleton.1 hb
         have hs2 := S1.jI hs
         rw [show (s.h : Int) + 1 = r by omega] at hs2
         have e3 : (D.jG r).find r = (D.find r).map (fun t => if t.at r then { t with mr := { t.mr with color := D.parity } } else t) := pz (D := D) (r := r) (g := fun t => { t with mr := { t.mr with color := D.parity } }) (fun t => ⟨rfl, rfl⟩) r
         rw [e3, hf] at hs2
         simp [dZ hf] at hs2
         rw [← hs2]
         exact h.1.2
 · exact S
theorem EH.ts (N : EH hold D) (h : D'.ts = D.ts) : EH hold D' := by
 have hl : D'.live = D.live := by unfold Wd.live; rw [h]
 exact ⟨by rw [hl, h]; exact N.cnt, by rw [hl]; exact N.good, by rw [hl]; exact N.jX⟩
theorem EH.touch (N : EH hold D) (S : bY D) (r : Int) : EH hold (D.touch r) := by
 rcases nu (D := D) r with h | h
 · exact N.ts h
 · exact (N.mark S r (f := fun m => { m with color := D.parity }) (fun _ => rfl) (fun _ => rfl)).ts h
theorem bY.more (S : bY D) (r : Int) : bY (D.more r) := (S.up r).touch r
theorem bY.rA (S : bY D) : bY D.rA := S.tu rfl rfl rfl rfl (fun b hb => .inl hb)
theorem bY.less (S : bY D) (r : Int) : bY (D.less r) := (S.down r).rA.inter r
theorem Lm (S : bY D) {f : cO → cO} (hs : s ∈ (D.mark x f).live) : ∃ v, v ∈ D.live ∧ s.h = v.h ∧ s.pt = v.pt ∧ ((v.h : Int) + 1 = x ∧ s.mr = f v.mr ∨ (v.h : Int) + 1 ≠ x ∧ s.mr = v.mr) := by
 cases hf : D.find x with
 | none =>
   rw [ek f hf] at hs
   exact ⟨s, hs, rfl, rfl, .inr ⟨fun h => (by have := S.jI hs; rw [h, hf] at this; cases this), rfl⟩⟩
 | some t =>
   obtain ⟨k1, k2⟩ := aC hf
   rcases jw (g := fun t => { t with mr := f t.mr }) S.nd hf hs with rfl | ⟨h, hne⟩
   · exact ⟨t, k1, rfl, rfl, .inl ⟨k2, rfl⟩⟩
   · exact ⟨s, h, rfl, rfl, .inr ⟨by omega, rfl⟩⟩
def yj (x : Int) (D : Wd) : Prop := ∀ t, t ∈ D.live → t.mr.dead = false → (t.h : Int) + 1 ≠ x → 0 < t.mr.refs
theorem yj.mark (P : yj x D) (S : bY D) (r : Int) {f : cO → cO} (h1 : ∀ m, (f m).dead = m.dead) (h2 : ∀ m, 0 < m.refs → 0 < (f m).refs) : yj x (D.mark r f) := fun s hs hd hx => by
 obtain ⟨v, hv, e1, e2, h⟩ := Lm S hs
 rcases h with ⟨h, e⟩ | ⟨h, e⟩
 · rw [e, h1] at hd
   rw [e]
   exact h2 _ (P v hv hd (by rw [← e1]; exact hx))
 · rw [e] at hd ⊢
   exact P v hv hd (by rw [← e1]; exact hx)
theorem yj.ts (P : yj x D) (h : D'.ts = D.ts) : yj x D' := by
 have hl : D'.live = D.live := by unfold Wd.live; rw [h]
 unfold yj
 rw [hl]
 exact P
theorem yj.touch (P : yj x D) (S : bY D) (r : Int) : yj x (D.touch r) := by
 rcases nu (D := D) r with h | h
 · exact P.ts h
 · exact (P.mark S r (f := fun m => { m with color := D.parity }) (fun _ => rfl) (fun _ h => h)).ts h
end
section
variable {c : Cf} {D : Wd} {t u : Th} {r x : Int} {w wr : World} {p : Pl} {zs : List Int}
theorem Sv.field {v : Nat} (hm : c.May) (hw : c.W = v) (a : Sv t) (g : Geo v t) {i : Nat} (hi : i < t.pt.length) : ∃ q, aY c t.ob i = some q := by
 have hW := hm.w
 have ef : t.ob.f = t.pt.length + t.dt.length := rfl
 by_cases hs : t.ob.f ≤ c.W - 8
 · exact ⟨_, by unfold aY; rw [kI hs]; rfl⟩
 · obtain ⟨_, h2⟩ := g.big (by rw [← hw]; omega)
   have hq : i / (c.W - 1) < t.lv.length := by
     rw [Nat.div_lt_iff_lt_mul (by omega)]
     rw [← hw] at h2
     omega
   obtain ⟨b, hb⟩ := a (i / (c.W - 1)) hq
   exact ⟨_, by unfold aY; rw [lC hs (Hl hb)]; rfl⟩
theorem jb (hm : c.May) (R : aL c zs D) (hf : D.find r = some t) : In64 r := by
 obtain ⟨htl, e⟩ := aC hf
 rw [← e]
 exact R.heap.CO hm (R.bP htl)
theorem Fa (S : bY D) (hf : D.find r = some t) (hd : t.mr.dead = false) (i : Nat) : Does c D 94 [.int .i64 r, .int .i64 (i : Int)] 12 D (.tuple #[.int .i64 (nth t.pt i), .int .i64 (if i < t.pt.length then 0 else 7)]) := fun zs hz R => by
 obtain ⟨htl, e⟩ := aC hf
 have hr := jb hz.may R hf
 by_cases hi : i < t.pt.length
 · obtain ⟨a, ha⟩ := ((S.ok t htl).alive hd).field hz.may R.w.symm (S.ok t htl).vS hi
   obtain ⟨⟨d, hd, C⟩, _, _⟩ := Bc hz R hr hf hi ha
   rw [if_pos hi]
   exact ⟨zs, ⟨d, hd, C⟩, R⟩
 · have h := kD.ptr c zs D.clean D.bK r i hz R.heap hr
   have hob := fC R r
   rw [hf] at hob
   have hob : eu D.bK r = some t.ob := hob
   have hb : kF (i : Int) t.ob.np = false := by
     unfold kF
     have : t.ob.np = t.pt.length := rfl
     simp
     omega
   have e1 : mY c zs D.bK r (i : Int) = nth t.pt i := by
     unfold mY
     rw [hob]
     simp only [hb]
     rw [dL (by omega)]
     rfl
   have e2 : lY c D.bK r (i : Int) = 7 := by
     unfold lY
     rw [hob]
     simp [hb]
   rw [e1, e2] at h
   rw [if_neg hi]
   exact ⟨zs, h, R⟩
theorem Rh (hf : D.find r = some t) (hb : t.mr.refs < 4294967295) : Does c D 96 [.int .i64 r] 8 (D.up r) (.tuple #[.int .i64 (t.mr.refs + 1), .bool true]) := fun zs hz R => by
 obtain ⟨htl, rfl⟩ := aC hf
 have e3 : nth zs (ai c t.ob.h 3) = t.mr.refs := (R.own t htl).w3
 have h := rX.up_yes c zs D.clean D.bK t.ob hz R.heap (R.bP htl) (by rw [e3]; exact hb)
 rw [e3] at h
 exact ⟨_, h, R.rM hz.may hz.len hf (v := 3) (.inl rfl) (x := t.mr.refs + 1) (f := fun m => { m with refs := m.refs + 1 }) rfl⟩
theorem Rf (hr : In64 r) : Does c D 34 [.int .i64 r] 12 D (.bool (D.find r).isSome) := fun zs hz R => by
 have h := kD.is_ c zs D.clean D.bK r hz R.heap hr
 rw [fC R r, Option.isSome_map] at h
 exact ⟨zs, h, R⟩
theorem EZ (hr : In64 r) : Does c D 37 [.int .i64 r] 2 D (.int .i64 (D.cnt r)) := fun zs hz R => by
 obtain ⟨d, hd, C⟩ := KM hz R hr
 exact ⟨zs, ⟨d, hd, C⟩, R⟩
theorem II (hf : D.find r = some t) (hd : t.mr.dead = false) : Does c D 49 [.int .i64 r] 12 D (.int .i64 ((vJ t : Nat) : Int)) := fun zs hz R => by
 have h := kD.blocks c zs D.clean D.bK r hz R.heap (jb hz.may R hf)
 have e : Aj D.bK r = ((vJ t : Nat) : Int) := by
   unfold Aj
   rw [fC R r, hf]
   show 1 + ((t.ob.lv.length : Nat) : Int) = _
   have : t.ob.lv.length = t.lv.length := by unfold Th.ob; simp
   unfold vJ
   rw [hd, this]
   simp
 rw [e] at h
 exact ⟨zs, h, R⟩
end
section
variable {c : Cf} {zs zs1 zs2 zs3 zs4 zs5 zs6 zs7 : List Int} {d1 d2 d3 d4 d5 d6 d7 : Nat}
set_option maxHeartbeats 1000000 in
theorem Da {r : Int} (C1 : Run c 34 [.int .i64 r] zs d1 zs1 (.bool false)) : Run c 103 [.int .i64 r] zs (d1) zs1 (.bool false) := fun p m w hG => by
 have HG := hid hG
 have HC1 := hid C1
 clear hG C1
 go_enter Tryz.func103, Tryz.ntmps103
 have HT0 : Hid (Touch (ak p) w w) := hid (Touch.refl _ _)
 go_wp2_with fail
 refine (HC1.out p _ _ HG.out).mono ?_
 rintro e wm1 ⟨rfl, hG, hT⟩
 have HG1 := hid hG
 have HT1 : Hid (Touch (ak p) _ wm1) := hid (HT0.out.trans hT)
 clear hG hT
 go_wp2_with fail
 go_ret
 exact ⟨rfl, HG1.out, HT1.out⟩
set_option maxHeartbeats 1000000 in
theorem Lh {r : Int} {b : Bool} (C1 : Run c 34 [.int .i64 r] zs d1 zs1 (.bool true)) (C2 : Run c 35 [.int .i64 r] zs1 d2 zs2 (.bool b)) : Run c 103 [.int .i64 r] zs (d1 + d2) zs2 (.bool (!b)) := fun p m w hG => by
 have HG := hid hG
 have HC1 := hid C1
 have HC2 := hid C2
 clear hG C1 C2
 go_enter Tryz.func103, Tryz.ntmps103
 have HT0 : Hid (Touch (ak p) w w) := hid (Touch.refl _ _)
 go_wp2_with fail
 refine (HC1.out p _ _ HG.out).mono ?_
 rintro e wm1 ⟨rfl, hG, hT⟩
 have HG1 := hid hG
 have HT1 : Hid (Touch (ak p) _ wm1) := hid (HT0.out.trans hT)
 clear hG hT
 go_wp2_with fail
 refine (HC2.out p _ _ HG1.out).mono ?_
 rintro e wm2 ⟨rfl, hG, hT⟩
 have HG2 := hid hG
 have HT2 : Hid (Touch (ak p) _ wm2) := hid (HT1.out.trans hT)
 clear hG hT
 go_wp2_with fail
 go_ret
 exact ⟨rfl, HG2.out.mJ rfl (by dsimp only; omega), HT2.out⟩
set_option maxHeartbeats 1000000 in
theorem NR {r n : Int} {b : Bool} (C1 : Run c 96 [.int .i64 r] zs d1 zs1 (.tuple #[.int .i64 n, .bool true])) (C2 : Run c 60 [.int .i64 r] zs1 d2 zs2 (.bool b)) : Run c 102 [.int .i64 r] zs (d1 + d2) zs2 (.bool true) := fun p m w hG => by
 have HG := hid hG
 have HC1 := hid C1
 have HC2 := hid C2
 clear hG C1 C2
 go_enter Tryz.func102, Tryz.ntmps102
 have HT0 : Hid (Touch (ak p) w w) := hid (Touch.refl _ _)
 go_wp2_with fail
 refine (HC1.out p _ _ HG.out).mono ?_
 rintro e wm1 ⟨rfl, hG, hT⟩
 have HG1 := hid hG
 have HT1 : Hid (Touch (ak p) _ wm1) := hid (HT0.out.trans hT)
 clear hG hT
 go_wp2_with fail
 refine (HC2.out p _ _ HG1.out).mono ?_
 rintro e wm2 ⟨rfl, hG, hT⟩
 have HG2 := hid hG
 have HT2 : Hid (Touch (ak p) _ wm2) := hid (HT1.out.trans hT)
 clear hG hT
 go_wp2_with fail
 go_ret
 exact ⟨rfl, HG2.out.mJ rfl (by dsimp only; omega), HT2.out⟩
set_option maxHeartbeats 1000000 in
theorem NQ {r n : Int} (hn : n ≠ 0) (C1 : Run c 159 [.int .i64 r] zs d1 zs1 (.tuple #[.int .i64 n, .bool true])) : Run c 104 [.int .i64 r] zs (d1 + 1) (zs1.set 16 1) (.bool true) := fun p m w hG => by
 have hnb : (n == 0) = false := bD hn
 clear hn
 have HG := hid hG
 have HC1 := hid C1
 clear hG C1
 go_enter Tryz.func104, Tryz.ntmps104
 have HT0 : Hid (Touch (ak p) w w) := hid (Touch.refl _ _)
 go_wp2_with fail
 refine (HC1.out p _ _ HG.out).mono ?_
 rintro e wm1 ⟨rfl, hG, hT⟩
 have HG1 := hid hG
 have HT1 : Hid (Touch (ak p) _ wm1) := hid (HT0.out.trans hT)
 clear hG hT
 go_wp2_with fail
 refine (bg p c _ 16 _ 1 _ HG1.out (by omega) rfl (by omega) (by omega)).mono ?_
 rintro e wm2 ⟨rfl, hG, hT⟩
 have HG2 := hid hG
 have HT2 : Hid (Touch (ak p) _ wm2) := hid (HT1.out.trans hT)
 clear hG hT
 go_wp2_with fail
 go_ret
 exact ⟨rfl, HG2.out.mJ rfl (by dsimp only [St.got, St.set]; omega), HT2.out⟩
set_option maxHeartbeats 1000000 in
theorem Li {r : Int} {b : Bool} (C1 : Run c 159 [.int .i64 r] zs d1 zs1 (.tuple #[.int .i64 0, .bool true])) (C2 : Run c 26 [.int .i64 r] (zs1.set 16 1) d2 zs2 (.bool b)) : Run c 104 [.int .i64 r] zs (d1 + 1 + d2) zs2 (.bool true) := fun p m w hG => by
 have HG := hid hG
 have HC1 := hid C1
 have HC2 := hid C2
 clear hG C1 C2
 go_enter Tryz.func104, Tryz.ntmps104
 have HT0 : Hid (Touch (ak p) w w) := hid (Touch.refl _ _)
 go_wp2_with fail
 refine (HC1.out p _ _ HG.out).mono ?_
 rintro e wm1 ⟨rfl, hG, hT⟩
 have HG1 := hid hG
 have HT1 : Hid (Touch (ak p) _ wm1) := hid (HT0.out.trans hT)
 clear hG hT
 go_wp2_with fail
 refine (bg p c _ 16 _ 1 _ HG1.out (by omega) rfl (by omega) (by omega)).mono ?_
 rintro e wm2 ⟨rfl, hG, hT⟩
 have HG2 := hid hG
 have HT2 : Hid (Touch (ak p) _ wm2) := hid (HT1.out.trans hT)
 clear hG hT
 go_wp2_with fail
 refine (HC2.out p _ _ HG2.out).mono ?_
 rintro e wm3 ⟨rfl, hG, hT⟩
 have HG3 := hid hG
 have HT3 : Hid (Touch (ak p) _ wm3) := hid (HT2.out.trans hT)
 clear hG hT
 go_wp2_with fail
 go_ret
 exact ⟨rfl, HG3.out.mJ rfl (by dsimp only [St.got, St.set]; omega), HT3.out⟩
set_option maxHeartbeats 1000000 in
theorem Fw {r : Int} (C1 : Run c 103 [.int .i64 r] zs d1 zs1 (.bool false)) : Run c 44 [.int .i64 r] zs (d1) zs1 (.bool false) := fun p m w hG => by
 have HG := hid hG
 have HC1 := hid C1
 clear hG C1
 go_enter Tryz.func44, Tryz.ntmps44
 have HT0 : Hid (Touch (ak p) w w) := hid (Touch.refl _ _)
 go_wp2_with fail
 refine (HC1.out p _ _ HG.out).mono ?_
 rintro e wm1 ⟨rfl, hG, hT⟩
 have HG1 := hid hG
 have HT1 : Hid (Touch (ak p) _ wm1) := hid (HT0.out.trans hT)
 clear hG hT
 go_wp2_with fail
 go_ret
 exact ⟨rfl, HG1.out, HT1.out⟩
set_option maxHeartbeats 1000000 in
theorem NP {r : Int} {b : Bool} (C1 : Run c 103 [.int .i64 r] zs d1 zs1 (.bool true)) (C2 : Run c 102 [.int .i64 r] zs1 d2 zs2 (.bool b)) : Run c 44 [.int .i64 r] zs (d1 + d2) zs2 (.bool b) := fun p m w hG => by
 have HG := hid hG
 have HC1 := hid C1
 have HC2 := hid C2
 clear hG C1 C2
 go_enter Tryz.func44, Tryz.ntmps44
 have HT0 : Hid (Touch (ak p) w w) := hid (Touch.refl _ _)
 go_wp2_with fail
 refine (HC1.out p _ _ HG.out).mono ?_
 rintro e wm1 ⟨rfl, hG, hT⟩
 have HG1 := hid hG
 have HT1 : Hid (Touch (ak p) _ wm1) := hid (HT0.out.trans hT)
 clear hG hT
 go_wp2_with fail
 refine (HC2.out p _ _ HG1.out).mono ?_
 rintro e wm2 ⟨rfl, hG, hT⟩
 have HG2 := hid hG
 have HT2 : Hid (Touch (ak p) _ wm2) := hid (HT1.out.trans hT)
 clear hG hT
 go_wp2_with fail
 go_ret
 exact ⟨rfl, HG2.out.mJ rfl (by dsimp only; omega), HT2.out⟩
set_option maxHeartbeats 1000000 in
theorem Ja {r : Int} (C1 : Run c 103 [.int .i64 r] zs d1 zs1 (.bool false)) : Run c 45 [.int .i64 r] zs (d1) zs1 (.bool false) := fun p m w hG => by
 have HG := hid hG
 have HC1 := hid C1
 clear hG C1
 go_enter Tryz.func45, Tryz.ntmps45
 have HT0 : Hid (Touch (ak p) w w) := hid (Touch.refl _ _)
 go_wp2_with fail
 refine (HC1.out p _ _ HG.out).mono ?_
 rintro e wm1 ⟨rfl, hG, hT⟩
 have HG1 := hid hG
 have HT1 : Hid (Touch (ak p) _ wm1) := hid (HT0.out.trans hT)
 clear hG hT
 go_wp2_with fail
 go_ret
 exact ⟨rfl, HG1.out, HT1.out⟩
set_option maxHeartbeats 1000000 in
theorem Lg {r : Int} {b : Bool} (C1 : Run c 103 [.int .i64 r] zs d1 zs1 (.bool true)) (C2 : Run c 104 [.int .i64 r] zs1 d2 zs2 (.bool b)) : Run c 45 [.int .i64 r] zs (d1 + d2) zs2 (.bool b) := fun p m w hG => by
 have HG := hid hG
 have HC1 := hid C1
 have HC2 := hid C2
 clear hG C1 C2
 go_enter Tryz.func45, Tryz.ntmps45
 have HT0 : Hid (Touch (ak p) w w) := hid (Touch.refl _ _)
 go_wp2_with fail
 refine (HC1.out p _ _ HG.out).mono ?_
 rintro e wm1 ⟨rfl, hG, hT⟩
 have HG1 := hid hG
 have HT1 : Hid (Touch (ak p) _ wm1) := hid (HT0.out.trans hT)
 clear hG hT
 go_wp2_with fail
 refine (HC2.out p _ _ HG1.out).mono ?_
 rintro e wm2 ⟨rfl, hG, hT⟩
 have HG2 := hid hG
 have HT2 : Hid (Touch (ak p) _ wm2) := hid (HT1.out.trans hT)
 clear hG hT
 go_wp2_with fail
 go_ret
 exact ⟨rfl, HG2.out.mJ rfl (by dsimp only; omega), HT2.out⟩
set_option maxHeartbeats 1000000 in
theorem wV {r i v e : Int} (C1 : Run c 94 [.int .i64 r, .int .i64 i] zs d1 zs1 (.tuple #[.int .i64 v, .int .i64 e])) : Run c 42 [.int .i64 r, .int .i64 i] zs (d1) zs1 (.tuple #[.int .i64 v, .int .i64 e]) := fun p m w hG => by
 have HG := hid hG
 have HC1 := hid C1
 clear hG C1
 go_enter Tryz.func42, Tryz.ntmps42
 have HT0 : Hid (Touch (ak p) w w) := hid (Touch.refl _ _)
 go_wp2_with fail
 refine (HC1.out p _ _ HG.out).mono ?_
 rintro e wm1 ⟨rfl, hG, hT⟩
 have HG1 := hid hG
 have HT1 : Hid (Touch (ak p) _ wm1) := hid (HT0.out.trans hT)
 clear hG hT
 go_wp2_with fail
 go_ret2
 exact ⟨rfl, HG1.out, HT1.out⟩
set_option maxHeartbeats 1000000 in
theorem Fz {v : Int} (hv : nth zs 16 = v) : Run c 18 [] zs (1) zs (.bool (v == 1)) := fun p m w hG => by
 have HG := hid hG
 have HRg := hid hv
 clear hv
 clear hG
 go_enter Tryz.func18, Tryz.ntmps18
 have HT0 : Hid (Touch (ak p) w w) := hid (Touch.refl _ _)
 go_wp2_with fail
 refine (ku p c _ 16 _ _ _ HG.out (by omega) rfl HRg.out).mono ?_
 rintro e wm1 ⟨rfl, hG, hT⟩
 have HG1 := hid hG
 have HT1 : Hid (Touch (ak p) _ wm1) := hid (HT0.out.trans hT)
 clear hG hT
 go_wp2_with fail
 go_ret
 exact ⟨rfl, HG1.out, HT1.out⟩
set_option maxHeartbeats 1000000 in
theorem CX {r i x : Int} (C1 : Run c 103 [.int .i64 r] zs d1 zs1 (.bool false)) : Run c 43 [.int .i64 r, .int .i64 i, .int .i64 x] zs (d1) zs1 (.int .i64 8) := fun p m w hG => by
 have HG := hid hG
 have HC1 := hid C1
 clear hG C1
 go_enter Tryz.func43, Tryz.ntmps43
 have HT0 : Hid (Touch (ak p) w w) := hid (Touch.refl _ _)
 go_wp2_with fail
 refine (HC1.out p _ _ HG.out).mono ?_
 rintro e wm1 ⟨rfl, hG, hT⟩
 have HG1 := hid hG
 have HT1 : Hid (Touch (ak p) _ wm1) := hid (HT0.out.trans hT)
 clear hG hT
 go_wp2_with fail
 go_ret
 exact ⟨rfl, HG1.out, HT1.out⟩
set_option maxHeartbeats 1000000 in
theorem AO {r i x y e : Int} (he : e ≠ 0) (C1 : Run c 103 [.int .i64 r] zs d1 zs1 (.bool true)) (C2 : Run c 94 [.int .i64 r, .int .i64 i] zs1 d2 zs2 (.tuple #[.int .i64 y, .int .i64 e])) : Run c 43 [.int .i64 r, .int .i64 i, .int .i64 x] zs (d1 + d2) zs2 (.int .i64 e) := fun p m w hG => by
 have heb : (e != 0) = true := by rw [bne_iff_ne]; exact he
 clear he
 have HG := hid hG
 have HC1 := hid C1
 have HC2 := hid C2
 clear hG C1 C2
 go_enter Tryz.func43, Tryz.ntmps43
 have HT0 : Hid (Touch (ak p) w w) := hid (Touch.refl _ _)
 go_wp2_with fail
 refine (HC1.out p _ _ HG.out).mono ?_
 rintro e wm1 ⟨rfl, hG, hT⟩
 have HG1 := hid hG
 have HT1 : Hid (Touch (ak p) _ wm1) := hid (HT0.out.trans hT)
 clear hG hT
 go_wp2_with fail
 refine (HC2.out p _ _ HG1.out).mono ?_
 rintro e wm2 ⟨rfl, hG, hT⟩
 have HG2 := hid hG
 have HT2 : Hid (Touch (ak p) _ wm2) := hid (HT1.out.trans hT)
 clear hG hT
 go_wp2_with fail
 go_ret
 exact ⟨rfl, HG2.out.mJ rfl (by dsimp only; omega), HT2.out⟩
set_option maxHeartbeats 1000000 in
theorem Fx {r i x y : Int} (hx : x ≠ 0) (C1 : Run c 103 [.int .i64 r] zs d1 zs1 (.bool true)) (C2 : Run c 94 [.int .i64 r, .int .i64 i] zs1 d2 zs2 (.tuple #[.int .i64 y, .int .i64 0])) (C3 : Run c 44 [.int .i64 x] zs2 d3 zs3 (.bool false)) : Run c 43 [.int .i64 r, .int .i64 i, .int .i64 x] zs (d1 + d2 + d3) zs3 (.int .i64 2) := fun p m w hG => by
 have hxb : (x != 0) = true := by rw [bne_iff_ne]; exact hx
 clear hx
 have HG := hid hG
 have HC1 := hid C1
 have HC2 := hid C2
 have HC3 := hid C3
 clear hG C1 C2 C3
 go_enter Tryz.func43, Tryz.ntmps43
 have HT0 : Hid (Touch (ak p) w w) := hid (Touch.refl _ _)
 go_wp2_with fail
 refine (HC1.out p _ _ HG.out).mono ?_
 rintro e wm1 ⟨rfl, hG, hT⟩
 have HG1 := hid hG
 have HT1 : Hid (Touch (ak p) _ wm1) := hid (HT0.out.trans hT)
 clear hG hT
 go_wp2_with fail
 refine (HC2.out p _ _ HG1.out).mono ?_
 rintro e wm2 ⟨rfl, hG, hT⟩
 have HG2 := hid hG
 have HT2 : Hid (Touch (ak p) _ wm2) := hid (HT1.out.trans hT)
 clear hG hT
 go_wp2_with fail
 refine (HC3.out p _ _ HG2.out).mono ?_
 rintro e wm3 ⟨rfl, hG, hT⟩
 have HG3 := hid hG
 have HT3 : Hid (Touch (ak p) _ wm3) := hid (HT2.out.trans hT)
 clear hG hT
 go_wp2_with fail
 go_ret
 exact ⟨rfl, HG3.out.mJ rfl (by dsimp only; omega), HT3.out⟩
set_option maxHeartbeats 1000000 in
theorem CZ {r i y k : Int} (hk : ¬ 0 < k) (C1 : Run c 103 [.int .i64 r] zs d1 zs1 (.bool true)) (C2 : Run c 94 [.int .i64 r, .int .i64 i] zs1 d2 zs2 (.tuple #[.int .i64 y, .int .i64 0])) (C3 : Run c 95 [.int .i64 r, .int .i64 i, .int .i64 0] zs2 d3 zs3 (.int .i64 0)) (C4 : Run c 37 [.int .i64 y] zs3 d4 zs4 (.int .i64 k)) : Run c 43 [.int .i64 r, .int .i64 i, .int .i64 0] zs (d1 + d2 + d3 + d4) zs4 (.int .i64 0) := fun p m w hG => by
 have hkz : ¬ 0 < k := hk
 clear hk
 have HG := hid hG
 have HC1 := hid C1
 have HC2 := hid C2
 have HC3 := hid C3
 have HC4 := hid C4
 clear hG C1 C2 C3 C4
 go_enter Tryz.func43, Tryz.ntmps43
 have HT0 : Hid (Touch (ak p) w w) := hid (Touch.refl _ _)
 go_wp2_with fail
 refine (HC1.out p _ _ HG.out).mono ?_
 rintro e wm1 ⟨rfl, hG, hT⟩
 have HG1 := hid hG
 have HT1 : Hid (Touch (ak p) _ wm1) := hid (HT0.out.trans hT)
 clear hG hT
 go_wp2_with fail
 refine (HC2.out p _ _ HG1.out).mono ?_
 rintro e wm2 ⟨rfl, hG, hT⟩
 have HG2 := hid hG
 have HT2 : Hid (Touch (ak p) _ wm2) := hid (HT1.out.trans hT)
 clear hG hT
 go_wp2_with fail
 refine (HC3.out p _ _ HG2.out).mono ?_
 rintro e wm3 ⟨rfl, hG, hT⟩
 have HG3 := hid hG
 have HT3 : Hid (Touch (ak p) _ wm3) := hid (HT2.out.trans hT)
 clear hG hT
 go_wp2_with fail
 refine (HC4.out p _ _ HG3.out).mono ?_
 rintro e wm4 ⟨rfl, hG, hT⟩
 have HG4 := hid hG
 have HT4 : Hid (Touch (ak p) _ wm4) := hid (HT3.out.trans hT)
 clear hG hT
 go_wp2_with fail
 go_ret
 exact ⟨rfl, HG4.out.mJ rfl (by dsimp only; omega), HT4.out⟩
set_option maxHeartbeats 1000000 in
theorem AP {r i y k : Int} {b b2 : Bool} (hk : 0 < k) (C1 : Run c 103 [.int .i64 r] zs d1 zs1 (.bool true)) (C2 : Run c 94 [.int .i64 r, .int .i64 i] zs1 d2 zs2 (.tuple #[.int .i64 y, .int .i64 0])) (C3 : Run c 95 [.int .i64 r, .int .i64 i, .int .i64 0] zs2 d3 zs3 (.int .i64 0)) (C4 : Run c 37 [.int .i64 y] zs3 d4 zs4 (.int .i64 k)) (C5 : Run c 60 [.int .i64 y] zs4 d5 zs5 (.bool b)) (C6 : Run c 104 [.int .i64 y] zs5 d6 zs6 (.bool b2)) : Run c 43 [.int .i64 r, .int .i64 i, .int .i64 0] zs (d1 + d2 + d3 + d4 + d5 + d6) zs6 (.int .i64 0) := fun p m w hG => by
 have hkp : 0 < k := hk
 clear hk
 have HG := hid hG
 have HC1 := hid C1
 have HC2 := hid C2
 have HC3 := hid C3
 have HC4 := hid C4
 have HC5 := hid C5
 have HC6 := hid C6
 clear hG C1 C2 C3 C4 C5 C6
 go_enter Tryz.func43, Tryz.ntmps43
 have HT0 : Hid (Touch (ak p) w w) := hid (Touch.refl _ _)
 go_wp2_with fail
 refine (HC1.out p _ _ HG.out).mono ?_
 rintro e wm1 ⟨rfl, hG, hT⟩
 have HG1 := hid hG
 have HT1 : Hid (Touch (ak p) _ wm1) := hid (HT0.out.trans hT)
 clear hG hT
 go_wp2_with fail
 refine (HC2.out p _ _ HG1.out).mono ?_
 rintro e wm2 ⟨rfl, hG, hT⟩
 have HG2 := hid hG
 have HT2 : Hid (Touch (ak p) _ wm2) := hid (HT1.out.trans hT)
 clear hG hT
 go_wp2_with fail
 refine (HC3.out p _ _ HG2.out).mono ?_
 rintro e wm3 ⟨rfl, hG, hT⟩
 have HG3 := hid hG
 have HT3 : Hid (Touch (ak p) _ wm3) := hid (HT2.out.trans hT)
 clear hG hT
 go_wp2_with fail
 refine (HC4.out p _ _ HG3.out).mono ?_
 rintro e wm4 ⟨rfl, hG, hT⟩
 have HG4 := hid hG
 have HT4 : Hid (Touch (ak p) _ wm4) := hid (HT3.out.trans hT)
 clear hG hT
 go_wp2_with fail
 refine (HC5.out p _ _ HG4.out).mono ?_
 rintro e wm5 ⟨rfl, hG, hT⟩
 have HG5 := hid hG
 have HT5 : Hid (Touch (ak p) _ wm5) := hid (HT4.out.trans hT)
 clear hG hT
 go_wp2_with fail
 refine (HC6.out p _ _ HG5.out).mono ?_
 rintro e wm6 ⟨rfl, hG, hT⟩
 have HG6 := hid hG
 have HT6 : Hid (Touch (ak p) _ wm6) := hid (HT5.out.trans hT)
 clear hG hT
 go_wp2_with fail
 go_ret
 exact ⟨rfl, HG6.out.mJ rfl (by dsimp only; omega), HT6.out⟩
set_option maxHeartbeats 1000000 in
theorem Fy {r i x y k : Int} (hx : x ≠ 0) (hk : ¬ 0 < k) (C1 : Run c 103 [.int .i64 r] zs d1 zs1 (.bool true)) (C2 : Run c 94 [.int .i64 r, .int .i64 i] zs1 d2 zs2 (.tuple #[.int .i64 y, .int .i64 0])) (C3 : Run c 44 [.int .i64 x] zs2 d3 zs3 (.bool true)) (C4 : Run c 95 [.int .i64 r, .int .i64 i, .int .i64 x] zs3 d4 zs4 (.int .i64 0)) (C5 : Run c 37 [.int .i64 y] zs4 d5 zs5 (.int .i64 k)) : Run c 43 [.int .i64 r, .int .i64 i, .int .i64 x] zs (d1 + d2 + d3 + d4 + d5) zs5 (.int .i64 0) := fun p m w hG => by
 have hxb : (x != 0) = true := by rw [bne_iff_ne]; exact hx
 clear hx
 have hkz : ¬ 0 < k := hk
 clear hk
 have HG := hid hG
 have HC1 := hid C1
 have HC2 := hid C2
 have HC3 := hid C3
 have HC4 := hid C4
 have HC5 := hid C5
 clear hG C1 C2 C3 C4 C5
 go_enter Tryz.func43, Tryz.ntmps43
 have HT0 : Hid (Touch (ak p) w w) := hid (Touch.refl _ _)
 go_wp2_with fail
 refine (HC1.out p _ _ HG.out).mono ?_
 rintro e wm1 ⟨rfl, hG, hT⟩
 have HG1 := hid hG
 have HT1 : Hid (Touch (ak p) _ wm1) := hid (HT0.out.trans hT)
 clear hG hT
 go_wp2_with fail
 refine (HC2.out p _ _ HG1.out).mono ?_
 rintro e wm2 ⟨rfl, hG, hT⟩
 have HG2 := hid hG
 have HT2 : Hid (Touch (ak p) _ wm2) := hid (HT1.out.trans hT)
 clear hG hT
 go_wp2_with fail
 refine (HC3.out p _ _ HG2.out).mono ?_
 rintro e wm3 ⟨rfl, hG, hT⟩
 have HG3 := hid hG
 have HT3 : Hid (Touch (ak p) _ wm3) := hid (HT2.out.trans hT)
 clear hG hT
 go_wp2_with fail
 refine (HC4.out p _ _ HG3.out).mono ?_
 rintro e wm4 ⟨rfl, hG, hT⟩
 have HG4 := hid hG
 have HT4 : Hid (Touch (ak p) _ wm4) := hid (HT3.out.trans hT)
 clear hG hT
 go_wp2_with fail
 refine (HC5.out p _ _ HG4.out).mono ?_
 rintro e wm5 ⟨rfl, hG, hT⟩
 have HG5 := hid hG
 have HT5 : Hid (Touch (ak p) _ wm5) := hid (HT4.out.trans hT)
 clear hG hT
 go_wp2_with fail
 go_ret
 exact ⟨rfl, HG5.out.mJ rfl (by dsimp only; omega), HT5.out⟩
set_option maxHeartbeats 1000000 in
theorem CY {r i x y k : Int} {b b2 : Bool} (hx : x ≠ 0) (hk : 0 < k) (C1 : Run c 103 [.int .i64 r] zs d1 zs1 (.bool true)) (C2 : Run c 94 [.int .i64 r, .int .i64 i] zs1 d2 zs2 (.tuple #[.int .i64 y, .int .i64 0])) (C3 : Run c 44 [.int .i64 x] zs2 d3 zs3 (.bool true)) (C4 : Run c 95 [.int .i64 r, .int .i64 i, .int .i64 x] zs3 d4 zs4 (.int .i64 0)) (C5 : Run c 37 [.int .i64 y] zs4 d5 zs5 (.int .i64 k)) (C6 : Run c 60 [.int .i64 y] zs5 d6 zs6 (.bool b)) (C7 : Run c 104 [.int .i64 y] zs6 d7 zs7 (.bool b2)) : Run c 43 [.int .i64 r, .int .i64 i, .int .i64 x] zs (d1 + d2 + d3 + d4 + d5 + d6 + d7) zs7 (.int .i64 0) := fun p m w hG => by
 have hxb : (x != 0) = true := by rw [bne_iff_ne]; exact hx
 clear hx
 have hkp : 0 < k := hk
 clear hk
 have HG := hid hG
 have HC1 := hid C1
 have HC2 := hid C2
 have HC3 := hid C3
 have HC4 := hid C4
 have HC5 := hid C5
 have HC6 := hid C6
 have HC7 := hid C7
 clear hG C1 C2 C3 C4 C5 C6 C7
 go_enter Tryz.func43, Tryz.ntmps43
 have HT0 : Hid (Touch (ak p) w w) := hid (Touch.refl _ _)
 go_wp2_with fail
 refine (HC1.out p _ _ HG.out).mono ?_
 rintro e wm1 ⟨rfl, hG, hT⟩
 have HG1 := hid hG
 have HT1 : Hid (Touch (ak p) _ wm1) := hid (HT0.out.trans hT)
 clear hG hT
 go_wp2_with fail
 refine (HC2.out p _ _ HG1.out).mono ?_
 rintro e wm2 ⟨rfl, hG, hT⟩
 have HG2 := hid hG
 have HT2 : Hid (Touch (ak p) _ wm2) := hid (HT1.out.trans hT)
 clear hG hT
 go_wp2_with fail
 refine (HC3.out p _ _ HG2.out).mono ?_
 rintro e wm3 ⟨rfl, hG, hT⟩
 have HG3 := hid hG
 have HT3 : Hid (Touch (ak p) _ wm3) := hid (HT2.out.trans hT)
 clear hG hT
 go_wp2_with fail
 refine (HC4.out p _ _ HG3.out).mono ?_
 rintro e wm4 ⟨rfl, hG, hT⟩
 have HG4 := hid hG
 have HT4 : Hid (Touch (ak p) _ wm4) := hid (HT3.out.trans hT)
 clear hG hT
 go_wp2_with fail
 refine (HC5.out p _ _ HG4.out).mono ?_
 rintro e wm5 ⟨rfl, hG, hT⟩
 have HG5 := hid hG
 have HT5 : Hid (Touch (ak p) _ wm5) := hid (HT4.out.trans hT)
 clear hG hT
 go_wp2_with fail
 refine (HC6.out p _ _ HG5.out).mono ?_
 rintro e wm6 ⟨rfl, hG, hT⟩
 have HG6 := hid hG
 have HT6 : Hid (Touch (ak p) _ wm6) := hid (HT5.out.trans hT)
 clear hG hT
 go_wp2_with fail
 refine (HC7.out p _ _ HG6.out).mono ?_
 rintro e wm7 ⟨rfl, hG, hT⟩
 have HG7 := hid hG
 have HT7 : Hid (Touch (ak p) _ wm7) := hid (HT6.out.trans hT)
 clear hG hT
 go_wp2_with fail
 go_ret
 exact ⟨rfl, HG7.out.mJ rfl (by dsimp only; omega), HT7.out⟩
end
section
variable {c : Cf} {D : Wd} {t u : Th} {r x y : Int} {zs : List Int} {hold : Nat → Nat}
theorem jg (hr : In64 r) : Does c D 103 [.int .i64 r] 14 D (.bool (D.dn r)) := fun zs hz R => by
 obtain ⟨zs1, ⟨d1, hd1, C1⟩, R1, hz1⟩ := (Rf (c := c) (D := D) hr).at hz R
 cases hf : D.find r with
 | none =>
   rw [hf] at C1
   rw [oZ hf]
   exact ⟨zs1, ⟨d1, by omega, Da C1⟩, R1⟩
 | some t =>
   rw [hf] at C1
   obtain ⟨zs2, ⟨d2, hd2, C2⟩, R2, hz2⟩ := (jW.dead c D r hr).at hz1 R1
   rw [show D.dn r = !D.dead r by unfold Wd.dn; rw [hf]; rfl]
   exact ⟨zs2, ⟨d1 + d2, by omega, Lh C1 C2⟩, R2⟩
theorem AA (hf : D.find r = some t) (hb : t.mr.refs < 4294967295) : Does c D 102 [.int .i64 r] 22 (D.more r) (.bool true) := fun zs hz R => by
 have hr := jb hz.may R hf
 obtain ⟨zs1, ⟨d1, hd1, C1⟩, R1, hz1⟩ := (Rh (c := c) hf hb).at hz R
 obtain ⟨zs2, ⟨d2, hd2, C2⟩, R2, hz2⟩ := (jW.touch c (D.up r) r hr).at hz1 R1
 exact ⟨zs2, ⟨d1 + d2, by omega, NR C1 C2⟩, R2⟩
theorem PR (R : aL c zs D) (hz : Wz c zs) : aL c (zs.set 16 1) D.rA := by
 refine R.qa hz.may hz.len (k := 16) (by omega) (by omega) rfl rfl rfl rfl rfl rfl rfl rfl (fun j h1 h2 h3 => ?_) R.par
 have : j = 10 ∨ j = 11 ∨ j = 12 ∨ j = 13 ∨ j = 14 ∨ j = 15 ∨ j = 17 ∨ j = 18 := by omega
 rcases this with rfl | rfl | rfl | rfl | rfl | rfl | rfl | rfl <;> rfl
theorem Kz (hf : D.find r = some t) : (D.down r).rA.cnt r = t.mr.refs - 1 := by
 have : (D.down r).rA.find r = some { t with mr := { t.mr with refs := t.mr.refs - 1 } } := by
   show (D.down r).find r = _
   unfold Wd.down
   rw [bZ, hf]
   simp [dZ hf]
 unfold Wd.cnt
 rw [this]
theorem GX (hf : D.find r = some t) (h0 : t.mr.refs ≠ 0) (hp0 : 0 ≤ D.pending) (hp1 : D.pending ≤ 4294900000) : Does c D 104 [.int .i64 r] 46 (D.less r) (.bool true) := fun zs hz R => by
 have hr := jb hz.may R hf
 obtain ⟨zs1, C1, R1⟩ := GN hz R hf h0
 have hz1 : Wz c zs1 := kX.wz hz ⟨3, Nat.le_refl _, C1⟩
 have R2 := PR R1 hz1
 have hz2 : Wz c (zs1.set 16 1) := hz1.set _ (by omega) (by omega)
 have hc := Kz hf
 by_cases h1 : t.mr.refs - 1 = 0
 · obtain ⟨zs3, ⟨d3, hd3, C3⟩, R3, hz3⟩ := (KL (c := c) (D := (D.down r).rA) hr hp0 hp1).at hz2 R2
   rw [h1] at C1
   exact ⟨zs3, ⟨3 + 1 + d3, by omega, Li C1 C3⟩, R3⟩
 · have e : D.less r = (D.down r).rA := by unfold Wd.less Wd.inter; rw [if_neg (by rw [hc]; exact h1)]
   rw [e]
   exact ⟨_, ⟨3 + 1, by omega, NQ h1 C1⟩, R2⟩
theorem wT (hr : In64 r) (h : D.dn r = false) : Does c D 44 [.int .i64 r] 14 D (.bool false) := fun zs hz R => by
 obtain ⟨zs1, ⟨d1, hd1, C1⟩, R1, hz1⟩ := (jg (c := c) (D := D) hr).at hz R
 rw [h] at C1
 exact ⟨zs1, ⟨d1, hd1, Fw C1⟩, R1⟩
theorem GV (hf : D.find r = some t) (hd : t.mr.dead = false) (hb : t.mr.refs < 4294967295) : Does c D 44 [.int .i64 r] 36 (D.more r) (.bool true) := fun zs hz R => by
 have hr := jb hz.may R hf
 obtain ⟨zs1, ⟨d1, hd1, C1⟩, R1, hz1⟩ := (jg (c := c) (D := D) hr).at hz R
 rw [bi hf, hd] at C1
 obtain ⟨zs2, ⟨d2, hd2, C2⟩, R2, hz2⟩ := (AA (c := c) hf hb).at hz1 R1
 exact ⟨zs2, ⟨d1 + d2, by omega, NP C1 C2⟩, R2⟩
theorem IV (hr : In64 r) (h : D.dn r = false) : Does c D 45 [.int .i64 r] 14 D (.bool false) := fun zs hz R => by
 obtain ⟨zs1, ⟨d1, hd1, C1⟩, R1, hz1⟩ := (jg (c := c) (D := D) hr).at hz R
 rw [h] at C1
 exact ⟨zs1, ⟨d1, hd1, Ja C1⟩, R1⟩
theorem KY (hf : D.find r = some t) (hd : t.mr.dead = false) (h0 : t.mr.refs ≠ 0) (hp0 : 0 ≤ D.pending) (hp1 : D.pending ≤ 4294900000) : Does c D 45 [.int .i64 r] 60 (D.less r) (.bool true) := fun zs hz R => by
 have hr := jb hz.may R hf
 obtain ⟨zs1, ⟨d1, hd1, C1⟩, R1, hz1⟩ := (jg (c := c) (D := D) hr).at hz R
 rw [bi hf, hd] at C1
 obtain ⟨zs2, ⟨d2, hd2, C2⟩, R2, hz2⟩ := (GX (c := c) hf h0 hp0 hp1).at hz1 R1
 exact ⟨zs2, ⟨d1 + d2, by omega, Lg C1 C2⟩, R2⟩
theorem PQ (S : bY D) (hf : D.find r = some t) (hd : t.mr.dead = false) (i : Nat) : Does c D 42 [.int .i64 r, .int .i64 (i : Int)] 12 D (.tuple #[.int .i64 (nth t.pt i), .int .i64 (if i < t.pt.length then 0 else 7)]) := fun zs hz R => by
 obtain ⟨zs1, ⟨d1, hd1, C1⟩, R1, hz1⟩ := (Fa (c := c) S hf hd i).at hz R
 exact ⟨zs1, ⟨d1, hd1, wV C1⟩, R1⟩
theorem nQ : Does c D 18 [] 1 D (.bool (D.suspect == 1)) := fun zs hz R => ⟨zs, ⟨1, Nat.le_refl _, Fz (R.reg 16 (by omega) (by omega))⟩, R⟩
theorem zy (hf : D.find r = some t) {i : Int} (hi : ¬ (0 ≤ i ∧ i < (t.pt.length : Int))) : Does c D 94 [.int .i64 r, .int .i64 i] 12 D (.tuple #[.int .i64 0, .int .i64 7]) := fun zs hz R => by
 have h := kD.ptr c zs D.clean D.bK r i hz R.heap (jb hz.may R hf)
 have hob := fC R r
 rw [hf] at hob
 have hob : eu D.bK r = some t.ob := hob
 have hb : kF i t.ob.np = false := by
   unfold kF
   rw [decide_eq_false_iff_not]
   exact hi
 rw [show mY c zs D.bK r i = 0 by unfold mY; rw [hob]; simp [hb], show lY c D.bK r i = 7 by unfold lY; rw [hob]; simp [hb]] at h
 exact ⟨zs, h, R⟩
theorem wI (S : bY D) (hf : D.find r = some t) (hd : t.mr.dead = false) {i : Nat} (hi : i < t.pt.length) (hx : x = 0 ∨ ∃ u, D.find x = some u) : Does c D 95 [.int .i64 r, .int .i64 (i : Int), .int .i64 x] 12 (D.aI r i x) (.int .i64 0) := fun zs hz R => by
 obtain ⟨htl, _⟩ := aC hf
 have hxb : 0 ≤ x ∧ x ≤ (c.N : Int) := by
   rcases hx with rfl | ⟨u, hu⟩
   · omega
   · obtain ⟨hul, e⟩ := aC hu
     have := R.hlt hul
     omega
 obtain ⟨a, ha⟩ := ((S.ok t htl).alive hd).field hz.may R.w.symm (S.ok t htl).vS hi
 obtain ⟨⟨d, hd, C⟩, R', _⟩ := xG hz R hf hi ha hxb.1 hxb.2
 exact ⟨_, ⟨d, hd, C⟩, R'⟩
theorem RH (S : bY D) (hz : Wz c zs) (R : aL c zs D) (hf : D.find r = some t) (hd : t.mr.dead = false) {i : Nat} (hi : i < t.pt.length) : In64 (nth t.pt i) := by
 obtain ⟨htl, _⟩ := aC hf
 obtain ⟨a, ha⟩ := ((S.ok t htl).alive hd).field hz.may R.w.symm (S.ok t htl).vS hi
 have := (Bc hz R (jb hz.may R hf) hf hi ha).2
 unfold In64
 omega
theorem OM (q : Int) (hf : D.find q = some t) (x : Int) : ∃ m : cO, (D.up x).find q = some { t with mr := m } ∧ m.dead = t.mr.dead := by
 unfold Wd.up
 rw [bZ, hf]
 by_cases e : t.at x = true
 · exact ⟨{ t.mr with refs := t.mr.refs + 1 }, by simp [e], rfl⟩
 · exact ⟨t.mr, by simp [e], rfl⟩
theorem qC (q : Int) (hf : D.find q = some t) (x : Int) : ∃ m : cO, (D.more x).find q = some { t with mr := m } ∧ m.dead = t.mr.dead := by
 obtain ⟨m, h1, h2⟩ := OM q hf x
 obtain ⟨k, h3⟩ := ou q h1 x
 exact ⟨_, h3, h2⟩
theorem Jf (x : Int) : (D.more x).pending = D.pending ∧ (D.more x).clean = D.clean ∧ (D.more x).grave = D.grave := by
 obtain ⟨h1, h2, h3, _⟩ := xO (D := D.up x) x
 exact ⟨h3, h1, h2⟩
theorem CS (hr : In64 r) (h : D.dn r = false) (i x : Int) : Does c D 43 [.int .i64 r, .int .i64 i, .int .i64 x] 14 D (.int .i64 8) := fun zs hz R => by
 obtain ⟨zs1, ⟨d1, hd1, C1⟩, R1, hz1⟩ := (jg (c := c) (D := D) hr).at hz R
 rw [h] at C1
 exact ⟨zs1, ⟨d1, hd1, CX C1⟩, R1⟩
theorem Az (hf : D.find r = some t) (hd : t.mr.dead = false) {i : Int} (hi : ¬ (0 ≤ i ∧ i < (t.pt.length : Int))) (x : Int) : Does c D 43 [.int .i64 r, .int .i64 i, .int .i64 x] 26 D (.int .i64 7) := fun zs hz R => by
 obtain ⟨zs1, ⟨d1, hd1, C1⟩, R1, hz1⟩ := (jg (c := c) (D := D) (jb hz.may R hf)).at hz R
 rw [bi hf, hd] at C1
 obtain ⟨zs2, ⟨d2, hd2, C2⟩, R2, hz2⟩ := (zy (c := c) hf hi).at hz1 R1
 exact ⟨zs2, ⟨d1 + d2, by omega, AO (by omega) C1 C2⟩, R2⟩
theorem Fq (S : bY D) (hf : D.find r = some t) (hd : t.mr.dead = false) {i : Nat} (hi : i < t.pt.length) (hx : x ≠ 0) (h64 : In64 x) (ha : D.dn x = false) : Does c D 43 [.int .i64 r, .int .i64 (i : Int), .int .i64 x] 40 D (.int .i64 2) := fun zs hz R => by
 obtain ⟨zs1, ⟨d1, hd1, C1⟩, R1, hz1⟩ := (jg (c := c) (D := D) (jb hz.may R hf)).at hz R
 rw [bi hf, hd] at C1
 obtain ⟨zs2, ⟨d2, hd2, C2⟩, R2, hz2⟩ := (Fa (c := c) S hf hd i).at hz1 R1
 rw [if_pos hi] at C2
 obtain ⟨zs3, ⟨d3, hd3, C3⟩, R3, hz3⟩ := (wT (c := c) (D := D) h64 ha).at hz2 R2
 exact ⟨zs3, ⟨d1 + d2 + d3, by omega, Fx hx C1 C2 C3⟩, R3⟩
theorem GY (h64 : In64 y) (hp0 : 0 ≤ D.pending) (hp1 : D.pending ≤ 4294900000) (hz : Wz c zs) (R : aL c zs D) :
   (¬ 0 < D.cnt y ∧ D.vK y = D ∧ ∃ zs1 d, d ≤ 2 ∧ Run c 37 [.int .i64 y] zs d zs1 (.int .i64 (D.cnt y)) ∧ aL c zs1 D) ∨
   (0 < D.cnt y ∧ ∃ zs1 d zs2 d2 b zs3 d3 b2, d + d2 + d3 ≤ 62 ∧ Run c 37 [.int .i64 y] zs d zs1 (.int .i64 (D.cnt y)) ∧ Run c 60 [.int .i64 y] zs1 d2 zs2 (.bool b) ∧ Run c 104 [.int .i64 y] zs2 d3 zs3 (.bool b2) ∧ aL c zs3 (D.vK y)) := by
 obtain ⟨zs1, ⟨d1, hd1, C1⟩, R1, hz1⟩ := (EZ (c := c) (D := D) h64).at hz R
 by_cases h : 0 < D.cnt y
 · right
   cases hf : D.find y with
   | none => unfold Wd.cnt at h; rw [hf] at h; simp at h
   | some v =>
     obtain ⟨zs2, ⟨d2, hd2, C2⟩, R2, hz2⟩ := (jW.touch c D y h64).at hz1 R1
     obtain ⟨k, hk⟩ := ou y hf y
     have hr : v.mr.refs ≠ 0 := by unfold Wd.cnt at h; rw [hf] at h; simp only at h; omega
     have e := (xO (D := D) y).2.2.1
     obtain ⟨zs3, ⟨d3, hd3, C3⟩, R3, hz3⟩ := (GX (c := c) hk hr (by rw [e]; exact hp0) (by rw [e]; exact hp1)).at hz2 R2
     exact ⟨h, zs1, d1, zs2, d2, _, zs3, d3, _, by omega, C1, C2, C3, by unfold Wd.vK; rw [if_pos h]; exact R3⟩
 · exact .inl ⟨h, by unfold Wd.vK; rw [if_neg h], zs1, d1, hd1, C1, R1⟩
theorem Fp (S : bY D) (hf : D.find r = some t) (hd : t.mr.dead = false) {i : Nat} (hi : i < t.pt.length) (hx : x = 0 ∨ ∃ u, D.find x = some u ∧ u.mr.dead = false ∧ u.mr.refs < 4294967295) (hp0 : 0 ≤ D.pending) (hp1 : D.pending ≤ 4294900000) :
   Does c D 43 [.int .i64 r, .int .i64 (i : Int), .int .i64 x] 150 (D.put r i x (nth t.pt i)) (.int .i64 0) := fun zs hz R => by
 have h64 := RH S hz R hf hd hi
 obtain ⟨zs1, ⟨d1, hd1, C1⟩, R1, hz1⟩ := (jg (c := c) (D := D) (jb hz.may R hf)).at hz R
 rw [bi hf, hd] at C1
 obtain ⟨zs2, ⟨d2, hd2, C2⟩, R2, hz2⟩ := (Fa (c := c) S hf hd i).at hz1 R1
 rw [if_pos hi] at C2
 by_cases hx0 : x = 0
 · subst hx0
   obtain ⟨zs3, ⟨d3, hd3, C3⟩, R3, hz3⟩ := (wI (c := c) (x := 0) S hf hd hi (.inl rfl)).at hz2 R2
   have e : D.bQ r i 0 = D.aI r i 0 := by unfold Wd.bQ; rw [if_pos rfl]
   unfold Wd.put
   rw [e]
   rcases GY (y := nth t.pt i) h64 (D := D.aI r i 0) hp0 hp1 hz3 R3 with ⟨h0, e2, zs4, d4, hd4, C4, R4⟩ | ⟨h0, zs4, d4, zs5, d5, b, zs6, d6, b2, hd, C4, C5, C6, R6⟩
   · rw [e2]
     exact ⟨zs4, ⟨d1 + d2 + d3 + d4, by omega, CZ h0 C1 C2 C3 C4⟩, R4⟩
   · exact ⟨zs6, ⟨d1 + d2 + d3 + d4 + d5 + d6, by omega, AP h0 C1 C2 C3 C4 C5 C6⟩, R6⟩
 · obtain ⟨u, hu, hud, hub⟩ : ∃ u, D.find x = some u ∧ u.mr.dead = false ∧ u.mr.refs < 4294967295 := by
     rcases hx with h | h
     · exact absurd h hx0
     · exact h
   obtain ⟨zs3, ⟨d3, hd3, C3⟩, R3, hz3⟩ := (GV (c := c) hu hud hub).at hz2 R2
   obtain ⟨m, hf1, hm1⟩ := qC r hf x
   obtain ⟨m2, hu1, _⟩ := qC x hu x
   obtain ⟨zs4, ⟨d4, hd4, C4⟩, R4, hz4⟩ := (wI (c := c) (x := x) (t := { t with mr := m }) (i := i) (S.more x) hf1 (hm1.trans hd) hi (.inr ⟨_, hu1⟩)).at hz3 R3
   have e : D.bQ r i x = (D.more x).aI r i x := by unfold Wd.bQ; rw [if_neg hx0]
   have ep := (Jf (D := D) x).1
   unfold Wd.put
   rw [e]
   rcases GY (y := nth t.pt i) h64 (D := (D.more x).aI r i x) (by show 0 ≤ (D.more x).pending; rw [ep]; exact hp0) (by show (D.more x).pending ≤ _; rw [ep]; exact hp1) hz4 R4 with ⟨h0, e2, zs5, d5, hd5, C5, R5⟩ | ⟨h0, zs5, d5, zs6, d6, b, zs7, d7, b2, hd, C5, C6, C7, R7⟩
   · rw [e2]
     exact ⟨zs5, ⟨d1 + d2 + d3 + d4 + d5, by omega, Fy hx0 h0 C1 C2 C3 C4 C5⟩, R5⟩
   · exact ⟨zs7, ⟨d1 + d2 + d3 + d4 + d5 + d6 + d7, by omega, CY hx0 h0 C1 C2 C3 C4 C5 C6 C7⟩, R7⟩
end
end Go.Proofs.YtbhhfnlkpieebaaGreat.Pk
