/-
  Texts laid together: RefSee, GravLike, LinkPl, LinkPi, LinkAct, LinkActL, LinkActH.
-/
import Derived.Test.YtbhhfnlkpieebaaGreatRefG3Etc
import Derived.Test.YtbhhfnlkpieebaaGreatLinkNamEtc
import Derived.Test.YtbhhfnlkpieebaaGreatRefG7Etc
import Derived.Test.YtbhhfnlkpieebaaGreatLinkLaw
import Derived.Test.YtbhhfnlkpieebaaGreatTintActFEtc
namespace Go.Proofs.YtbhhfnlkpieebaaGreat.Pk
open Lib (hid)
open Go.RowKit
set_option linter.unusedVariables false
set_option linter.unusedSimpArgs false
set_option maxRecDepth 100000
def Dv (v : Nat) (t : Th) : List Int := (List.range t.pt.length).map (fun i => if eP v t i then 0 else nth t.pt i)
def EF (v : Nat) (t : Th) : List Int := (List.range t.dt.length).map (fun i => if eP v t (t.pt.length + i) then 0 else nth t.dt i)
theorem lL (v : Nat) (t : Th) : (Dv v t).length = t.pt.length := by simp [Dv]
theorem nN (v : Nat) (t : Th) : (EF v t).length = t.dt.length := by simp [EF]
theorem Oh {v : Nat} {t : Th} {i : Nat} (h : i < t.pt.length) : nth (Dv v t) i = if eP v t i then 0 else nth t.pt i := by
 show (Dv v t).getD i 0 = _
 unfold Dv
 simp [List.getD, h]
theorem Np {v : Nat} {t : Th} {i : Nat} (h : i < t.dt.length) : nth (EF v t) i = if eP v t (t.pt.length + i) then 0 else nth t.dt i := by
 show (EF v t).getD i 0 = _
 unfold EF
 simp [List.getD, h]
section
variable {w w' : World} {lo : Nat} {lab : Nat → Nat} {a : WA} {D : Wd} {i : Nat} {t t' : Th} {x : TA} {n v b : Nat} {c : Cf} {zs : List Int}
def Nf (v : Nat) (t : Th) (w : World) (e : Ending) (w' : World) : Prop :=
 ∃ a1 c1 a2 c2, e = .returned (.tuple #[.agg #[.slice a1 t.pt.length c1, .slice a2 t.dt.length c2], .bool true]) ∧ Row w' .i64 a1 (Dv v t) ∧ Row w' .u32 a2 (EF v t) ∧ Below w.heap.size w w'
theorem pu (hw : 16 ≤ c.W) {k : Nat} (hk : k < t.pt.length + t.dt.length) (hb : ¬ t.pt.length + t.dt.length ≤ c.W - 8 → k / (c.W - 1) < t.lv.length) : (aY c t.ob k).isSome = !eP c.W t k := by
 have e : t.ob.f = t.pt.length + t.dt.length := rfl
 unfold aY bC eP
 rw [e]
 by_cases h : t.pt.length + t.dt.length ≤ c.W - 8
 · simp [h]
 · have hj := hb h
   simp only [h, if_false, decide_false, Bool.not_false, Bool.true_and]
   have hl : t.ob.lv[k / (c.W - 1)]? = some ((nth t.lv (k / (c.W - 1)) + 1).toNat) := by
     show (t.lv.map _)[_]? = _
     rw [List.getElem?_map]
     unfold nth
     simp [List.getD, hj]
   rw [hl]
   by_cases hn : nth t.lv (k / (c.W - 1)) < 0
   · rw [show (nth t.lv (k / (c.W - 1)) + 1).toNat = 0 by omega]
     simp [hn]
   · obtain ⟨m, hm⟩ : ∃ m, (nth t.lv (k / (c.W - 1)) + 1).toNat = m + 1 := ⟨(nth t.lv (k / (c.W - 1))).toNat, by omega⟩
     rw [hm]
     simp [hn]
theorem aL.Na (R : aL c zs D) (hm : c.May) (S : bY D) (htl : t ∈ D.live) : EE D.w t := by
 have ho := R.heap.bK t.ob (R.bP htl)
 have hw := hm.w
 have e : t.ob.f = t.pt.length + t.dt.length := rfl
 have h1 := ho.size
 rw [e] at h1
 rw [R.w]
 refine ⟨by omega, by omega, h1, fun hb => ?_⟩
 have g := (S.ok t htl).vS.big (by rw [R.w]; exact hb)
 rw [R.w] at g
 exact g.2
theorem RG (R : aL c zs D) (hm : c.May) (S : bY D) (htl : t ∈ D.live) : lM c zs t.ob = Dv D.w t := by
 have z := R.Na hm S htl
 have hw := R.w
 rw [hw] at z ⊢
 refine List.map_congr_left (fun k hk => ?_)
 have h2 : k < t.pt.length := List.mem_range.1 hk
 have h3 := pu (c := c) (t := t) (k := k) z.w0 (by omega) (fun hb => z.leaf hb (by omega))
 unfold ik
 cases ha : aY c t.ob k with
 | some q =>
   rw [ha] at h3
   have h4 : eP c.W t k = false := by simpa using h3
   rw [if_neg (by rw [h4]; decide)]
   show nth zs q = _
   rw [R.uW t htl k q (by unfold Th.ob Ob.f; simp; omega) ha]
   unfold Th.uW
   rw [if_pos h2]
 | none =>
   rw [ha] at h3
   have h4 : eP c.W t k = true := by simpa using h3
   rw [if_pos h4]
theorem Rb (R : aL c zs D) (hm : c.May) (S : bY D) (htl : t ∈ D.live) : gI c zs t.ob = EF D.w t := by
 have z := R.Na hm S htl
 have hw := R.w
 rw [hw] at z ⊢
 refine List.map_congr_left (fun k hk => ?_)
 have h2 : k < t.dt.length := List.mem_range.1 hk
 have e : t.ob.np + k = t.pt.length + k := rfl
 rw [e]
 have h3 := pu (c := c) (t := t) (k := t.pt.length + k) z.w0 (by omega) (fun hb => z.leaf hb (by omega))
 unfold ik
 cases ha : aY c t.ob (t.pt.length + k) with
 | some q =>
   rw [ha] at h3
   have h4 : eP c.W t (t.pt.length + k) = false := by simpa using h3
   rw [if_neg (by rw [h4]; decide)]
   show nth zs q = _
   rw [R.uW t htl (t.pt.length + k) q (by unfold Th.ob Ob.f; simp; omega) ha]
   unfold Th.uW
   rw [if_neg (by omega), Nat.add_sub_cancel_left]
 | none =>
   rw [ha] at h3
   have h4 : eP c.W t (t.pt.length + k) = true := by simpa using h3
   rw [if_pos h4]
theorem Nt {wr : World} {p : Pl} {r : Int} (S : bY D) (hf : D.find r = some t) (h : kQ w p c D wr) : Calls Tryz.prog 84 #[.pointer (some ⟨p.a, 0, none⟩), .int .i64 r] wr (Nf D.w t wr) := by
 refine h.looks (f := 84) (args := [.int .i64 r]) (Q := Nf D.w t) (fun zs hz R => ?_)
 obtain ⟨htl, e⟩ := aC hf
 have hl := kD.see_yes c zs D.clean D.bK t.ob hz R.heap (R.bP htl)
 have e' : ((t.ob.h : Nat) : Int) + 1 = r := e
 rw [e'] at hl
 have hp := RG R hz.may S htl
 have hq := Rb R hz.may S htl
 intro p m w hG
 refine (hl p m w hG).mono ?_
 rintro e w' ⟨a1, c1, a2, c2, rfl, r1, r2, f1, f2, f12, hb, e1, e2⟩
 rw [hp] at r1
 rw [hq] at r2
 exact ⟨a1, c1, a2, c2, rfl, r1.row, r2.row, hb⟩
theorem Rl : (Tryz.prog.info? 116).map (fun i => (i.zero, i.size, i.bytes)) = some (some (.int .u32 0), 1, 4) := by kernel_rfl
def OV (w : World) (v1 : Value) (k : Nat) (l : List Int) (wr : World) : Prop :=
 wr.ownsRow (w.heap.size + 2) 3 1 v1 k (l.map (Value.int .i64)) ∧ aU wr (w.heap.size + 1) #[v1, .slice none 0 0] 95 ∧ aU wr w.heap.size #[.slice none 0 0, .slice none 0 0] 95 ∧ Below w.heap.size w wr
def OW (w w8 : World) (v1 v2 : Value) (k : Nat) (l : List Int) (wr : World) : Prop :=
 wr.ownsRow w8.heap.size 116 1 v2 k (l.map (Value.int .u32)) ∧ aU wr (w.heap.size + 1) #[v1, v2] 95 ∧ aU wr w.heap.size #[.slice none 0 0, .slice none 0 0] 95 ∧ Touch (fun b => b = w.heap.size + 1) w8 wr
theorem OV.push {w w1 : World} {v1 v' : Value} {k : Nat} {l : List Int} {y : Int} {wr : World} (h : OV w v1 k l wr) (hk : l.length = k) (ho : w1.ownsRow (w.heap.size + 2) 3 1 v' (k + 1) ((l ++ [y]).map (Value.int .i64))) (hg : (wr.alloc (.cells #[.int .i64 y] 3)).grownBy w1 v1.ownBlock) :
   OV w v' (k + 1) (l ++ [y]) (w1.setCell ⟨w.heap.size + 1, 0, none⟩ v') ∧ w1.cell? ⟨w.heap.size + 1, 0, none⟩ = some v1 ∧ w1.frozen? ⟨w.heap.size + 1, 0, none⟩ = false := by
 obtain ⟨h1, h2, h3, h4⟩ := h
 have hn : ∀ g, v1.ownBlock = some g → w.heap.size + 2 ≤ g := aP h1
 have T : Touch (fun q => w.heap.size + 2 ≤ q) wr w1 := (Touch.of_below (ah wr _)).trans ((dx hg).mono (fun q _ e => hn q e))
 have hB := h2.touch T (by omega)
 have hZ := h3.touch T (by omega)
 refine ⟨⟨?_, hB.put 0 v' rfl, hZ.other (by show w.heap.size + 1 ≠ w.heap.size; omega) _, ?_⟩, hB.cell 0 rfl, hB.free 0⟩
 · exact bN ho ((Touch.refl (fun q => q = w.heap.size + 1) w1).setCell (p := ⟨w.heap.size + 1, 0, none⟩) (fun _ => rfl) v') (fun g hgg e => by have := aP ho g hgg; omega)
 · exact (h4.trans (T.below (fun q hq => by omega) h4.size)).setCell (by show w.heap.size ≤ w.heap.size + 1; omega) _
theorem OW.push {w w8 w1 : World} {v1 v2 v' : Value} {k : Nat} {l : List Int} {y : Int} {wr : World} (h : OW w w8 v1 v2 k l wr) (hs : w.heap.size + 2 ≤ w8.heap.size) (ho : w1.ownsRow w8.heap.size 116 1 v' (k + 1) ((l ++ [y]).map (Value.int .u32))) (hg : (wr.alloc (.cells #[.int .u32 y] 116)).grownBy w1 v2.ownBlock) :
   OW w w8 v1 v' (k + 1) (l ++ [y]) (w1.setCell ⟨w.heap.size + 1, 1, none⟩ v') ∧ w1.cell? ⟨w.heap.size + 1, 1, none⟩ = some v2 ∧ w1.frozen? ⟨w.heap.size + 1, 1, none⟩ = false := by
 obtain ⟨h1, h2, h3, h4⟩ := h
 have hn : ∀ g, v2.ownBlock = some g → w8.heap.size ≤ g := aP h1
 have T : Touch (fun q => w8.heap.size ≤ q) wr w1 := (Touch.of_below (ah wr _)).trans ((dx hg).mono (fun q _ e => hn q e))
 have hB := h2.touch T (by omega)
 have hZ := h3.touch T (by omega)
 have T8 : Touch (fun q => q = w.heap.size + 1) w8 w1 := by
   have := h4.size
   refine ⟨T.os.trans h4.os, T.tape.trans h4.tape, T.output.trans h4.output, Nat.le_trans h4.size T.size, fun q hq hx => ?_⟩
   exact (T.block q (by omega) (by omega)).trans (h4.block q hq hx)
 refine ⟨⟨?_, hB.put 1 v' rfl, hZ.other (by show w.heap.size + 1 ≠ w.heap.size; omega) _, T8.setCell (p := ⟨w.heap.size + 1, 1, none⟩) (fun _ => rfl) v'⟩, hB.cell 1 rfl, hB.free 1⟩
 exact bN ho ((Touch.refl (fun q => q = w.heap.size + 1) w1).setCell (p := ⟨w.heap.size + 1, 1, none⟩) (fun _ => rfl) v') (fun g hgg e => by have := aP ho g hgg; omega)
theorem OV.gy {w : World} {v1 : Value} {k : Nat} {l : List Int} {wr w2 : World} (h : OV w v1 k l wr) (d : fe wr w2) : OV w v1 k l w2 := by
 obtain ⟨m, rfl⟩ := d
 exact ⟨h.1, h.2.1, h.2.2.1, h.2.2.2.trans (fe.below ⟨m, rfl⟩ _)⟩
theorem OW.gy {w w8 : World} {v1 v2 : Value} {k : Nat} {l : List Int} {wr w2 : World} (h : OW w w8 v1 v2 k l wr) (d : fe wr w2) : OW w w8 v1 v2 k l w2 := by
 obtain ⟨m, rfl⟩ := d
 exact ⟨h.1, h.2.1, h.2.2.1, h.2.2.2.drewN m⟩
theorem qR (w : World) (y : Int) : ∀ j z, [Value.int .u32 y][j]? = some z → (w.alloc (.cells #[.int .u32 y] 116)).cell? ((⟨w.heap.size, 0, none⟩ : Addr).add j) = some z := sJ w (.int .u32 y) 116
set_option maxHeartbeats 4000000 in
theorem Rk (h : aF w lo lab a D) {r : Int} (hf : D.find r = some t) (z : EE D.w t) :
   Calls Tryz.prog 85 #[.pointer (some ⟨a.hb, 0, none⟩), .int .i64 r] w (Nf D.w t w) := by
 obtain ⟨i0, hinf, hz0, hz1, hz2⟩ := info_parts jf
 obtain ⟨j0, jinf, jz0, jz1, jz2⟩ := info_parts Rl
 obtain ⟨i, x, hi, ht, hx⟩ := h.found hf
 have HC := hid (fun w' (h' : aF w' lo lab a D) => bB h' hi hx)
 have HS := hid (fun w' (h' : aF w' lo lab a D) k (hk : k < t.pt.length + t.dt.length) => KR h' ht hx z hk)
 have HTA := hid (fun w' (h' : aF w' lo lab a D) => h'.h.th i t x ht hx)
 have hsm := z.small
 have H := hid h
 clear h hf hi ht hx z
 go_enter Tryz.func85, Tryz.ntmps85
 go_wp2_with fail
 have HB0 := hid (ah w (.cells #[.slice none 0 0, .slice none 0 0] 95))
 refine (HC.out _ (H.out.later HB0.out)).mono ?_
 rintro e w1 ⟨rfl, rfl⟩
 go_wp2_with fail
 have HG0 : Hid (OV w (.slice none 0 0) 0 [] ((w.alloc (.cells #[.slice none 0 0, .slice none 0 0] 95)).alloc (.cells #[.slice none 0 0, .slice none 0 0] 95))) := hid (by
   have hb := aU.new (w.alloc (.cells #[.slice none 0 0, .slice none 0 0] 95)) #[.slice none 0 0, .slice none 0 0] 95
   have hs : (w.alloc (.cells #[.slice none 0 0, .slice none 0 0] 95)).heap.size = w.heap.size + 1 := by simp
   rw [hs] at hb
   exact ⟨World.ownsRow_nil _ _ _ _, hb, (aU.new w _ _).alloc _, ay (ah w _) (ah _ _)⟩)
 go_loopw [8] (fun s wr => ∃ k : Nat, k ≤ t.pt.length ∧ s = .int .i64 (k : Int) ∧ ∃ v1, OV w v1 k ((Dv D.w t).take k) wr) (fun s _ => t.pt.length - (intOf s).toNat)
 case atStart => exact ⟨0, Nat.zero_le _, rfl, _, HG0.out⟩
 case round =>
   obtain ⟨k, hk, rfl, v1, hG⟩ := hrel
   have HGk := hid hG
   have HW := hid (H.out.later hG.2.2.2)
   have hT := HTA.out _ HW.out
   have d2 := hT.c2
   by_cases hlt : k < t.pt.length
   · obtain ⟨gp, hpa, hgp, gpc, _⟩ := hT.pt.at hlt
     rw [hpa] at d2
     have HSk := HS.out _ HW.out k (by omega)
     have HL : Hid ((Dv D.w t).take (k + 1) = (Dv D.w t).take k ++ [if eP D.w t k then 0 else nth t.pt k]) := hid (by rw [iV (by rw [lL]; exact hlt), Oh hlt])
     have HLn : Hid (((Dv D.w t).take k).length = k) := hid (by rw [List.length_take, lL]; omega)
     cases hs : eP D.w t k with
     | true =>
       rw [hs] at HSk HL
       have HSk := hid HSk
       clear hG hT hpa hs
       go_wp2_with fail
       refine HSk.out.mono ?_
       rintro e w2 ⟨rfl, hd⟩
       have HGm := hid (HGk.out.gy hd)
       clear hd
       have hown := HGm.out.1
       have hsz := HGm.out.2.1.lt
       have c7 := HGm.out.2.1.cell 0 rfl
       go_wp2_with (at_builtin; refine wpList_append_own _ rfl _ _ 39 rfl (w.heap.size + 2) 3 i0 (.int .i64 0) 1 8 Tryz.underlying39 hinf hz0 hz1 hz2 rfl (by decide) _ _ _ rfl (hown.alloc _) ⟨w2.heap.size, 0, none⟩ 1 1 [.int .i64 0] rfl rfl ?c1 ?c2 ?c3 ?c4 ?c5 ?c6)
       case c1 => exact cell_one_new w2 _ _
       case c2 => intro u hu; simp at hu; subst hu; rfl
       case c3 => unfold maxLen; omega
       case c4 => omega
       case c5 => simp; omega
       case c6 =>
         intro v' w6 hown' hgrow _
         obtain ⟨⟨o', cap', rfl⟩, _⟩ := iT hown'
         have hp := HGm.out.push HLn.out (y := 0) (by simpa using hown') hgrow
         have HP := hid hp.1
         have q7 := hp.2.1
         have g7 := hp.2.2
         clear hown' hgrow hown hsz hp c7
         go_wp2_with fail
         go_roundw
         case rel => exact ⟨k + 1, by omega, by go_num, _, by rw [HL.out]; exact HP.out⟩
         case measure => simp [intOf]; omega
     | false =>
       rw [hs] at HSk HL
       have HSk := hid HSk
       clear hG hT hpa hs
       go_wp2_with fail
       refine HSk.out.mono ?_
       rintro e w2 ⟨rfl, hd⟩
       have HGm := hid (HGk.out.gy hd)
       clear hd
       have hown := HGm.out.1
       have hsz := HGm.out.2.1.lt
       have c7 := HGm.out.2.1.cell 0 rfl
       go_wp2_with (at_builtin; refine wpList_append_own _ rfl _ _ 39 rfl (w.heap.size + 2) 3 i0 (.int .i64 0) 1 8 Tryz.underlying39 hinf hz0 hz1 hz2 rfl (by decide) _ _ _ rfl (hown.alloc _) ⟨w2.heap.size, 0, none⟩ 1 1 [.int .i64 (nth t.pt k)] rfl rfl ?c1 ?c2 ?c3 ?c4 ?c5 ?c6)
       case c1 => exact cell_one_new w2 _ _
       case c2 => intro u hu; simp at hu; subst hu; rfl
       case c3 => unfold maxLen; omega
       case c4 => omega
       case c5 => simp; omega
       case c6 =>
         intro v' w6 hown' hgrow _
         obtain ⟨⟨o', cap', rfl⟩, _⟩ := iT hown'
         have hp := HGm.out.push HLn.out (y := (nth t.pt k)) (by simpa using hown') hgrow
         have HP := hid hp.1
         have q7 := hp.2.1
         have g7 := hp.2.2
         clear hown' hgrow hown hsz hp c7
         go_wp2_with fail
         go_roundw
         case rel => exact ⟨k + 1, by omega, by go_num, _, by rw [HL.out]; exact HP.out⟩
         case measure => simp [intOf]; omega
   · obtain rfl : k = t.pt.length := by omega
     generalize wr = wr8 at *
     have HS8 : Hid (w.heap.size + 2 ≤ wr8.heap.size) := hid (by have := HGk.out.2.1.lt; omega)
     have HQ0 : Hid (OW w wr8 v1 (.slice none 0 0) 0 [] wr8) := hid ⟨World.ownsRow_nil _ _ _ _, HGk.out.2.1, HGk.out.2.2.1, Touch.refl _ _⟩
     clear hG hT
     go_wp2_with fail
     go_loopw [10] (fun s wr => ∃ k : Nat, k ≤ t.dt.length ∧ s = .int .i64 (k : Int) ∧ ∃ v2, OW w wr8 v1 v2 k ((EF D.w t).take k) wr) (fun s _ => t.dt.length - (intOf s).toNat)
     case atStart => exact ⟨0, Nat.zero_le _, rfl, _, HQ0.out⟩
     case round =>
       clear hlt d2
       obtain ⟨k, hk, rfl, v2, hG⟩ := hrel
       have HGq := hid HGk.out
       clear HGk
       have HGk := hid hG
       have HBw : Hid (Below w.heap.size w wr) := hid (HGq.out.2.2.2.trans (hG.2.2.2.below (fun q hq => by omega) HGq.out.2.2.2.size))
       have HW2 := hid (H.out.later HBw.out)
       have hT := HTA.out _ HW2.out
       have d2 := hT.c2
       have d3 := hT.c3
       by_cases hlt : k < t.dt.length
       · obtain ⟨gp, hpa, hgp, gpc, _⟩ := hT.dt.at hlt
         rw [hpa] at d3
         have HSk := HS.out _ HW2.out (t.pt.length + k) (by omega)
         have hwr : IntKind.i64.wrap ((t.pt.length : Int) + (k : Int)) = ((t.pt.length + k : Nat) : Int) := by rw [Int.natCast_add]; exact IntWalk.i64_in _ (by omega)
         have HL : Hid ((EF D.w t).take (k + 1) = (EF D.w t).take k ++ [if eP D.w t (t.pt.length + k) then 0 else nth t.dt k]) := hid (by rw [iV (by rw [nN]; exact hlt), Np hlt])
         cases hs : eP D.w t (t.pt.length + k) with
         | true =>
           rw [hs] at HSk HL
           have HSk := hid HSk
           clear hG hT hpa hs
           go_wp2_with fail
           refine HSk.out.mono ?_
           rintro e w2 ⟨rfl, hd⟩
           have HGm := hid (HGk.out.gy hd)
           clear hd
           have hown := HGm.out.1
           have hsz := HGm.out.2.2.2.size
           have c7 := HGm.out.2.1.cell 1 rfl
           go_wp2_with (at_builtin; refine wpList_append_own _ rfl _ _ 82 rfl wr8.heap.size 116 j0 (.int .u32 0) 1 4 Tryz.underlying82 jinf jz0 jz1 jz2 rfl (by decide) _ _ _ rfl (hown.alloc _) ⟨w2.heap.size, 0, none⟩ 1 1 [.int .u32 0] rfl rfl ?c1 ?c2 ?c3 ?c4 ?c5 ?c6)
           case c1 => exact qR w2 _
           case c2 => intro u hu; simp at hu; subst hu; rfl
           case c3 => unfold maxLen; omega
           case c4 => omega
           case c5 => simp; omega
           case c6 =>
             intro v' w6 hown' hgrow _
             obtain ⟨⟨o', cap', rfl⟩, _⟩ := iT hown'
             have hp := HGm.out.push HS8.out (y := 0) (by simpa using hown') hgrow
             have HP := hid hp.1
             have q7 := hp.2.1
             have g7 := hp.2.2
             clear hown' hgrow hown hsz hp c7
             go_wp2_with fail
             go_roundw
             case rel => exact ⟨k + 1, by omega, by go_num, _, by rw [HL.out]; exact HP.out⟩
             case measure => simp [intOf]; omega
         | false =>
           rw [hs] at HSk HL
           have HSk := hid HSk
           clear hG hT hpa hs
           go_wp2_with fail
           refine HSk.out.mono ?_
           rintro e w2 ⟨rfl, hd⟩
           have HGm := hid (HGk.out.gy hd)
           clear hd
           have hown := HGm.out.1
           have hsz := HGm.out.2.2.2.size
           have c7 := HGm.out.2.1.cell 1 rfl
           go_wp2_with (at_builtin; refine wpList_append_own _ rfl _ _ 82 rfl wr8.heap.size 116 j0 (.int .u32 0) 1 4 Tryz.underlying82 jinf jz0 jz1 jz2 rfl (by decide) _ _ _ rfl (hown.alloc _) ⟨w2.heap.size, 0, none⟩ 1 1 [.int .u32 (nth t.dt k)] rfl rfl ?c1 ?c2 ?c3 ?c4 ?c5 ?c6)
           case c1 => exact qR w2 _
           case c2 => intro u hu; simp at hu; subst hu; rfl
           case c3 => unfold maxLen; omega
           case c4 => omega
           case c5 => simp; omega
           case c6 =>
             intro v' w6 hown' hgrow _
             obtain ⟨⟨o', cap', rfl⟩, _⟩ := iT hown'
             have hp := HGm.out.push HS8.out (y := (nth t.dt k)) (by simpa using hown') hgrow
             have HP := hid hp.1
             have q7 := hp.2.1
             have g7 := hp.2.2
             clear hown' hgrow hown hsz hp c7
             go_wp2_with fail
             go_roundw
             case rel => exact ⟨k + 1, by omega, by go_num, _, by rw [HL.out]; exact HP.out⟩
             case measure => simp [intOf]; omega
       · obtain rfl : k = t.dt.length := by omega
         have h1 := HGq.out.1
         have h2 := HGk.out.1
         have e1 : (Dv D.w t).take t.pt.length = Dv D.w t := List.take_of_length_le (by rw [lL]; exact Nat.le_refl _)
         have e2 : (EF D.w t).take t.dt.length = EF D.w t := List.take_of_length_le (by rw [nN]; exact Nat.le_refl _)
         rw [e1] at h1
         rw [e2] at h2
         have f1 : ∀ g, v1.ownBlock = some g → w.heap.size + 2 ≤ g := aP h1
         have l1 := lL D.w t
         have l2 := nN D.w t
         obtain ⟨a1, c1, ev1, r1⟩ : ∃ a1 c1, v1 = .slice a1 t.pt.length c1 ∧ Row wr8 .i64 a1 (Dv D.w t) := by
           have := Row.nV (v := v1) (zs := Dv D.w t) (by rw [l1]; exact h1)
           rw [l1] at this
           exact this
         obtain ⟨a2, c2, ev2, r2⟩ : ∃ a2 c2, v2 = .slice a2 t.dt.length c2 ∧ Row wr .u32 a2 (EF D.w t) := by
           have := Row.nV (v := v2) (zs := EF D.w t) (by rw [l2]; exact h2)
           rw [l2] at this
           exact this
         subst ev1 ev2
         have HR1 : Hid (Row wr .i64 a1 (Dv D.w t)) := hid (r1.touch HGk.out.2.2.2 (fun _ b off e hx => by
           subst e
           have hx : b = w.heap.size + 1 := hx
           have hf := f1 b rfl
           omega))
         have HR2 := hid r2
         have z0 := HGk.out.2.1.cell 0 rfl
         have z1 := HGk.out.2.1.cell 1 rfl
         have y0 := HGk.out.2.2.1.cell 0 rfl
         have y1 := HGk.out.2.2.1.cell 1 rfl
         have g0 := HGk.out.2.2.1.free 0
         have g1 := HGk.out.2.2.1.free 1
         have hlx := HGk.out.2.2.1.lt
         have HT2 : Hid (Touch (fun q => q = w.heap.size) wr ((wr.setCell ⟨w.heap.size, 0, none⟩ (.slice a1 t.pt.length c1)).setCell ⟨w.heap.size, 1, none⟩ (.slice a2 t.dt.length c2))) := hid (((Touch.refl (fun q => q = w.heap.size) wr).setCell (p := ⟨w.heap.size, 0, none⟩) (fun _ => rfl) _).setCell (p := ⟨w.heap.size, 1, none⟩) (fun _ => rfl) _)
         have HF1 : Hid (nI (fun q => q = w.heap.size) a1 (Dv D.w t)) := hid (fun _ b off e hx => by
           subst e
           have hx : b = w.heap.size := hx
           have hf := f1 b rfl
           omega)
         have HF2 : Hid (nI (fun q => q = w.heap.size) a2 (EF D.w t)) := hid (fun _ b off e hx => by
           subst e
           have hx : b = w.heap.size := hx
           have hf := aP h2 b rfl
           have := HS8.out
           omega)
         clear hG hT h1 h2 e1 e2 f1 l1 l2 r1 r2
         go_wp2_with fail
         exact bodyPost_ret (v := .tuple #[.agg #[.slice a1 t.pt.length c1, .slice a2 t.dt.length c2], .bool true]) (by simp [results, Tryz.results85, go_sem, y0, y1, hlx]) rfl ⟨a1, c1, a2, c2, rfl, HR1.out.touch HT2.out HF1.out, HR2.out.touch HT2.out HF2.out, HBw.out.trans (HT2.out.below (fun q hq => by omega) HBw.out.size)⟩
end
section
variable {w wr w' : World} {p : Pl} {q lo : Nat} {c : Cf} {D D2 : Wd} {t : Th}
theorem bI.SG (h : bI wr lo q D) {r : Int} (hf : D.find r = some t) (z : EE D.w t) : ∃ hb, wr.cell? ⟨q, 0, none⟩ = some (.pointer (some ⟨hb, 0, none⟩)) ∧ Calls Tryz.prog 85 #[.pointer (some ⟨hb, 0, none⟩), .int .i64 r] wr (Nf D.w t wr) := by
 obtain ⟨lab, a, rfl, k⟩ := h
 exact ⟨a.hb, k.c0, Rk k hf z⟩
theorem bI.Pv (h : bI wr lo q D) (r : Int) : Calls Tryz.prog 87 #[.pointer (some ⟨q, 0, none⟩), .int .i64 r] wr fun e w' => e = .returned (.int .i64 (D.cnt r)) ∧ wr = w' := by
 obtain ⟨lab, a, rfl, k⟩ := h
 exact jy k r
theorem bI.SN (h : bI wr lo q D) : q < wr.heap.size := by
 obtain ⟨lab, a, rfl, k⟩ := h
 exact k.wb.lt
structure QU (D : Wd) : Prop where
 lq : LQ D
 gl : D.grave.length ≤ 8000
 cl : D.clean.length ≤ 8000
 san : bY D
 sz : ∀ t, t ∈ D.live → EE D.w t ∧ t.pt.length ≤ 10000 ∧ t.dt.length ≤ 10000
theorem Jt {k : Nat} (S : bY D) (hk : k < D.refs.length) : ∃ t, t ∈ D.live ∧ nth D.refs k = (t.h : Int) + 1 ∧ D.find (nth D.refs k) = some t := by
 have e : nth D.refs k = D.refs[k] := by unfold nth; simp [List.getD, hk]
 have hm : D.refs[k] ∈ iC D.ts := List.getElem_mem hk
 unfold iC at hm
 obtain ⟨t, ht, hx⟩ := List.mem_flatMap.1 hm
 cases he : t.ended with
 | true => rw [he] at hx; simp at hx
 | false =>
   rw [he] at hx
   simp at hx
   have htl : t ∈ D.live := jk.2 ⟨ht, he⟩
   exact ⟨t, htl, by rw [e]; exact hx, by rw [e, hx]; exact S.jI htl⟩
set_option maxHeartbeats 4000000 in
theorem qX (h : oV w p q lo c D D wr) (hl : QU D) :
   Calls Tryz.prog 17 #[.pointer (some ⟨p.a, 0, none⟩), .pointer (some ⟨q, 0, none⟩)] wr fun e w' => e = .returned (.bool true) ∧ oV w p q lo c D D w' ∧ Touch (ak p) wr w' := by
 have H0 := hid h
 have HL := hid hl
 have HX : Hid (∀ b, lo ≤ b → ¬ ak p b) := hid (fun b hb hx => h.2.2.1 b hb (Or.inr hx))
 obtain ⟨hb, ca, cc, ga, gc, HN⟩ : ∃ hb ca cc ga gc, Hid (∀ w', (RL w p q lo c D D).r wr w' → w'.cell? ⟨q, 0, none⟩ = some (.pointer (some ⟨hb, 0, none⟩)) ∧ w'.cell? ⟨hb, 2, none⟩ = some (.slice ca D.clean.length cc) ∧ w'.cell? ⟨q, 12, none⟩ = some (.slice ga D.grave.length gc) ∧ w'.cell? ⟨q, 13, none⟩ = some (.int .i64 D.pending) ∧ Row w' .i64 ca (ints D.clean) ∧ Row w' .i64 ga (ints D.grave)) := by
   obtain ⟨lab, a, rfl, k⟩ := h.2.1
   refine ⟨a.hb, a.ca, a.cc, a.ga, a.gc, hid (fun w' h => ?_)⟩
   have k' := k.touch h.2 (fun b hb _ hx => HX.out b hb hx)
   exact ⟨k'.c0, k'.h.c2, k'.c12, k'.c13, k'.h.crow, k'.gv⟩
 have cc0 := fun w' (h : (RL w p q lo c D D).r wr w') => (HN.out w' h).1
 have ch2 := fun w' (h : (RL w p q lo c D D).r wr w') => (HN.out w' h).2.1
 have cc12 := fun w' (h : (RL w p q lo c D D).r wr w') => (HN.out w' h).2.2.1
 have cc13 := fun w' (h : (RL w p q lo c D D).r wr w') => (HN.out w' h).2.2.2.1
 have HLk : ∀ w', (RL w p q lo c D D).r wr w' → Calls Tryz.prog 80 #[.pointer (some ⟨p.a, 0, none⟩), .pointer (some ⟨q, 0, none⟩)] w' fun e w'' => e = .returned (.bool true) ∧ (RL w p q lo c D D).r w' w'' := fun w' h => (Bw Ow jW (h.1 H0.out) HL.out.lq).mono fun e w'' ⟨e1, e2, e3⟩ => ⟨e1, fun _ => e2, e3⟩
 have HSe : ∀ w', (RL w p q lo c D D).r wr w' → Calls Tryz.prog 54 #[.pointer (some ⟨p.a, 0, none⟩)] w' fun e w'' => e = .returned (.int .i64 D.pending) ∧ (RL w p q lo c D D).r w' w'' := fun w' h => ((h.1 H0.out).1.KP).mono fun e w'' ⟨e1, e2⟩ => ⟨e1, by subst e2; exact (RL w p q lo c D D).refl _⟩
 have HPl : ∀ w', (RL w p q lo c D D).r wr w' → Calls Tryz.prog 82 #[.pointer (some ⟨p.a, 0, none⟩)] w' fun e w'' => ∃ v, e = .returned v ∧ (RL w p q lo c D D).r w' w'' ∧ (xC w p q lo c D D D.clean HX.out).p w'' v := fun w' h => ((h.1 H0.out).1.LH).mono fun e w'' ⟨a, cap, e1, e2, e3, e4⟩ => ⟨_, e1, (RL w p q lo c D D).below e4, a, cap, rfl, e2, fun b off e => by
   have := (h.1 H0.out).2.1.lq
   have := (h.1 H0.out).2.1.SN
   have := e3 b off e
   omega⟩
 have HGv : ∀ w', (RL w p q lo c D D).r wr w' → Calls Tryz.prog 53 #[.pointer (some ⟨p.a, 0, none⟩)] w' fun e w'' => ∃ v, e = .returned v ∧ (RL w p q lo c D D).r w' w'' ∧ (xC w p q lo c D D D.grave HX.out).p w'' v := fun w' h => ((h.1 H0.out).1.IJ HL.out.lq.2.2 HL.out.gl).mono fun e w'' ⟨a, cap, e1, e2, e3, e4⟩ => ⟨_, e1, (RL w p q lo c D D).below e4, a, cap, rfl, e2, fun b off e => by
   have := (h.1 H0.out).2.1.lq
   have := (h.1 H0.out).2.1.SN
   have := e3 b off e
   omega⟩
 have HIn1 : ∀ w', (RL w p q lo c D D).r wr w' → ∀ ad cap, Row w' .i64 ad (ints D.clean) → Calls Tryz.prog 81 #[.slice ad D.clean.length cap, .slice ca D.clean.length cc] w' fun e w'' => e = .returned (.bool true) ∧ (RL w p q lo c D D).r w' w'' := fun w' h ad cap hr => (Ay _ _ _ _ _ _ (az _) hr (HN.out w' h).2.2.2.2.1 (by have := HL.out.cl; omega)).mono fun e w'' ⟨e1, e2⟩ => ⟨e1, (RL w p q lo c D D).below e2.new⟩
 have HIn2 : ∀ w', (RL w p q lo c D D).r wr w' → ∀ ad cap, Row w' .i64 ad (ints D.grave) → Calls Tryz.prog 81 #[.slice ad D.grave.length cap, .slice ga D.grave.length gc] w' fun e w'' => e = .returned (.bool true) ∧ (RL w p q lo c D D).r w' w'' := fun w' h ad cap hr => (Ay _ _ _ _ _ _ (az _) hr (HN.out w' h).2.2.2.2.2 (by have := HL.out.gl; omega)).mono fun e w'' ⟨e1, e2⟩ => ⟨e1, (RL w p q lo c D D).below e2.new⟩
 clear h hl
 go_enter Tryz.func17, Tryz.ntmps17
 go_wp2_with fail
 refine TX.eT [TX.av.is (.pointer (some ⟨p.a, 0, none⟩)), TX.av.is (.pointer (some ⟨q, 0, none⟩)), TX.av.is (.bool true), TX.av.is (.bool false), TX.av.is (.bool false), TX.av.is (.pointer (some ⟨p.a, 0, none⟩)), xC w p q lo c D D D.clean HX.out, TX.av.is (.pointer (some ⟨q, 0, none⟩)), TX.av.is (.pointer (some ⟨q, 0, none⟩)), TX.av.is (.pointer (some ⟨q, 0, none⟩)), TX.av.is (.pointer (some ⟨hb, 0, none⟩)), TX.av.is (.pointer (some ⟨hb, 0, none⟩)), TX.av.is (.pointer (some ⟨hb, 2, none⟩)), TX.av.is (.slice ca D.clean.length cc), TX.av.is (.bool true), TX.av.is (.bool false), TX.av.is (.bool false), TX.av.is (.bool false), TX.av.is (.pointer (some ⟨p.a, 0, none⟩)), xC w p q lo c D D D.grave HX.out, TX.av.is (.pointer (some ⟨q, 0, none⟩)), TX.av.is (.pointer (some ⟨q, 0, none⟩)), TX.av.is (.pointer (some ⟨q, 12, none⟩)), TX.av.is (.slice ga D.grave.length gc), TX.av.is (.bool true), TX.av.is (.bool false), TX.av.is (.bool false), TX.av.is (.bool false), TX.av.is (.pointer (some ⟨p.a, 0, none⟩)), TX.av.is (.int .i64 D.pending), TX.av.is (.pointer (some ⟨q, 0, none⟩)), TX.av.is (.pointer (some ⟨q, 0, none⟩)), TX.av.is (.pointer (some ⟨q, 13, none⟩)), TX.av.is (.int .i64 D.pending), TX.av.is (.bool false), TX.av.is (.bool false)] (by kernel_rfl) (by kernel_rfl) rfl (by kernel_rfl) (fun ops K2 hops hK => ?_)
 refine TX.ae (TX.au rfl) (fun w' hC hd => TX.aD _ (.inl rfl) rfl) (by go_frame; rfl) (by simp only [List.nil_append, List.cons_append]; rfl) ?_
 refine TX.ae (TX.au rfl) (fun w' hC hd => TX.aD _ (.inl rfl) rfl) (by go_frame; rfl) (by simp only [List.nil_append, List.cons_append]; rfl) ?_
 refine TX.ae (TX.au rfl) (fun w' hC hd => TX.fG 11 (.pointer (some ⟨p.a, 0, none⟩)) 12 (.pointer (some ⟨q, 0, none⟩)) rfl rfl (fun ρ hρ hf e0 e1 => TX.dF (f := 80) (by go_simp) (HLk w' hC))) (by go_frame; rfl) (by simp only [List.nil_append, List.cons_append]; rfl) ?_
 refine TX.ae (TX.au rfl) (fun w' hC hd => TX.aA 13 (.bool true) rfl (fun ρ hρ hf e0 => TX.aB (by go_simp))) (by go_frame; rfl) (by simp only [List.nil_append, List.cons_append]; rfl) ?_
 refine TX.ae (TX.au rfl) (fun w' hC hd => TX.aD _ (.inl rfl) rfl) (by go_frame; rfl) (by simp only [List.nil_append, List.cons_append]; rfl) ?_
 refine TX.ae (TX.aG hops rfl rfl rfl rfl) (fun w' hC hd => TX.aD _ (.inl rfl) rfl) (by go_frame; rfl) (by simp only [List.nil_append, List.cons_append]; rfl) ?_
 refine rP (TX.aG hops rfl rfl rfl rfl) (fun w' hC hd => TX.aA 16 (.pointer (some ⟨p.a, 0, none⟩)) rfl (fun ρ hρ hf e0 => mK (f := 82) (by go_simp) (HPl w' hC))) (fun ad cap => (by go_frame; rfl)) (fun ad => (by simp only [List.nil_append, List.cons_append]; rfl)) (fun ad1 cap1 => ?_)
 refine TX.ae (TX.aG hops rfl rfl rfl rfl) (fun w' hC hd => TX.aD _ (.inl rfl) rfl) (by go_frame; rfl) (by simp only [List.nil_append, List.cons_append]; rfl) ?_
 refine TX.ae (TX.aG hops rfl rfl rfl rfl) (fun w' hC hd => TX.aA 18 (.pointer (some ⟨q, 0, none⟩)) rfl (fun ρ hρ hf e0 => TX.aB (by go_simp))) (by go_frame; rfl) (by simp only [List.nil_append, List.cons_append]; rfl) ?_
 refine TX.ae (TX.aG hops rfl rfl rfl rfl) (fun w' hC hd => TX.aA 19 (.pointer (some ⟨q, 0, none⟩)) rfl (fun ρ hρ hf e0 => TX.aB (by go_simp))) (by go_frame; rfl) (by simp only [List.nil_append, List.cons_append]; rfl) ?_
 refine TX.ae (TX.aG hops rfl rfl rfl rfl) (fun w' hC hd => TX.aA 20 (.pointer (some ⟨q, 0, none⟩)) rfl (fun ρ hρ hf e0 => TX.aB (by have hc0 := cc0 w' hC; go_simp))) (by go_frame; rfl) (by simp only [List.nil_append, List.cons_append]; rfl) ?_
 refine TX.ae (TX.aG hops rfl rfl rfl rfl) (fun w' hC hd => TX.aA 21 (.pointer (some ⟨hb, 0, none⟩)) rfl (fun ρ hρ hf e0 => TX.aB (by go_simp))) (by go_frame; rfl) (by simp only [List.nil_append, List.cons_append]; rfl) ?_
 refine TX.ae (TX.aG hops rfl rfl rfl rfl) (fun w' hC hd => TX.aA 22 (.pointer (some ⟨hb, 0, none⟩)) rfl (fun ρ hρ hf e0 => TX.aB (by go_simp))) (by go_frame; rfl) (by simp only [List.nil_append, List.cons_append]; rfl) ?_
 refine TX.ae (TX.aG hops rfl rfl rfl rfl) (fun w' hC hd => TX.aA 23 (.pointer (some ⟨hb, 2, none⟩)) rfl (fun ρ hρ hf e0 => TX.aB (by have hc0 := ch2 w' hC; go_simp))) (by go_frame; rfl) (by simp only [List.nil_append, List.cons_append]; rfl) ?_
 refine TX.ae (TX.aG hops rfl rfl rfl rfl) (fun w' hC hd => TX.fG 17 (.slice ad1 D.clean.length cap1) 24 (.slice ca D.clean.length cc) rfl rfl (fun ρ hρ hf e0 e1 => TX.dF (f := 81) (by go_simp) (HIn1 w' hC ad1 cap1 (hd 6 (by kernel_rfl)).1))) (by go_frame; rfl) (by simp only [List.nil_append, List.cons_append]; rfl) ?_
 refine TX.ae (TX.aG hops rfl rfl rfl rfl) (fun w' hC hd => TX.aA 25 (.bool true) rfl (fun ρ hρ hf e0 => TX.aB (by go_simp))) (by go_frame; rfl) (by simp only [List.nil_append, List.cons_append]; rfl) ?_
 refine TX.ae (TX.au rfl) (fun w' hC hd => TX.fZ _ _ _ false rfl rfl rfl) (by go_frame; rfl) (by simp only [List.nil_append, List.cons_append]; rfl) ?_
 refine TX.ae (TX.au rfl) (fun w' hC hd => TX.aD _ (.inl rfl) rfl) (by go_frame; rfl) (by simp only [List.nil_append, List.cons_append]; rfl) ?_
 refine TX.ae (TX.aG hops rfl rfl rfl rfl) (fun w' hC hd => TX.aD _ (.inl rfl) rfl) (by go_frame; rfl) (by simp only [List.nil_append, List.cons_append]; rfl) ?_
 refine rP (TX.aG hops rfl rfl rfl rfl) (fun w' hC hd => TX.aA 29 (.pointer (some ⟨p.a, 0, none⟩)) rfl (fun ρ hρ hf e0 => mK (f := 53) (by go_simp) (HGv w' hC))) (fun ad cap => (by go_frame; rfl)) (fun ad => (by simp only [List.nil_append, List.cons_append]; rfl)) (fun ad2 cap2 => ?_)
 refine TX.ae (TX.aG hops rfl rfl rfl rfl) (fun w' hC hd => TX.aD _ (.inl rfl) rfl) (by go_frame; rfl) (by simp only [List.nil_append, List.cons_append]; rfl) ?_
 refine TX.ae (TX.aG hops rfl rfl rfl rfl) (fun w' hC hd => TX.aA 31 (.pointer (some ⟨q, 0, none⟩)) rfl (fun ρ hρ hf e0 => TX.aB (by go_simp))) (by go_frame; rfl) (by simp only [List.nil_append, List.cons_append]; rfl) ?_
 refine TX.ae (TX.aG hops rfl rfl rfl rfl) (fun w' hC hd => TX.aA 32 (.pointer (some ⟨q, 0, none⟩)) rfl (fun ρ hρ hf e0 => TX.aB (by go_simp))) (by go_frame; rfl) (by simp only [List.nil_append, List.cons_append]; rfl) ?_
 refine TX.ae (TX.aG hops rfl rfl rfl rfl) (fun w' hC hd => TX.aA 33 (.pointer (some ⟨q, 12, none⟩)) rfl (fun ρ hρ hf e0 => TX.aB (by have hc0 := cc12 w' hC; go_simp))) (by go_frame; rfl) (by simp only [List.nil_append, List.cons_append]; rfl) ?_
 refine TX.ae (TX.aG hops rfl rfl rfl rfl) (fun w' hC hd => TX.fG 30 (.slice ad2 D.grave.length cap2) 34 (.slice ga D.grave.length gc) rfl rfl (fun ρ hρ hf e0 e1 => TX.dF (f := 81) (by go_simp) (HIn2 w' hC ad2 cap2 (hd 19 (by kernel_rfl)).1))) (by go_frame; rfl) (by simp only [List.nil_append, List.cons_append]; rfl) ?_
 refine TX.ae (TX.aG hops rfl rfl rfl rfl) (fun w' hC hd => TX.aA 35 (.bool true) rfl (fun ρ hρ hf e0 => TX.aB (by go_simp))) (by go_frame; rfl) (by simp only [List.nil_append, List.cons_append]; rfl) ?_
 refine TX.ae (TX.au rfl) (fun w' hC hd => TX.fZ _ _ _ false rfl rfl rfl) (by go_frame; rfl) (by simp only [List.nil_append, List.cons_append]; rfl) ?_
 refine TX.ae (TX.au rfl) (fun w' hC hd => TX.aD _ (.inl rfl) rfl) (by go_frame; rfl) (by simp only [List.nil_append, List.cons_append]; rfl) ?_
 refine TX.ae (TX.aG hops rfl rfl rfl rfl) (fun w' hC hd => TX.aD _ (.inl rfl) rfl) (by go_frame; rfl) (by simp only [List.nil_append, List.cons_append]; rfl) ?_
 refine TX.ae (TX.aG hops rfl rfl rfl rfl) (fun w' hC hd => TX.aA 39 (.pointer (some ⟨p.a, 0, none⟩)) rfl (fun ρ hρ hf e0 => TX.dF (f := 54) (by go_simp) (HSe w' hC))) (by go_frame; rfl) (by simp only [List.nil_append, List.cons_append]; rfl) ?_
 refine TX.ae (TX.aG hops rfl rfl rfl rfl) (fun w' hC hd => TX.aD _ (.inl rfl) rfl) (by go_frame; rfl) (by simp only [List.nil_append, List.cons_append]; rfl) ?_
 refine TX.ae (TX.aG hops rfl rfl rfl rfl) (fun w' hC hd => TX.aA 41 (.pointer (some ⟨q, 0, none⟩)) rfl (fun ρ hρ hf e0 => TX.aB (by go_simp))) (by go_frame; rfl) (by simp only [List.nil_append, List.cons_append]; rfl) ?_
 refine TX.ae (TX.aG hops rfl rfl rfl rfl) (fun w' hC hd => TX.aA 42 (.pointer (some ⟨q, 0, none⟩)) rfl (fun ρ hρ hf e0 => TX.aB (by go_simp))) (by go_frame; rfl) (by simp only [List.nil_append, List.cons_append]; rfl) ?_
 refine TX.ae (TX.aG hops rfl rfl rfl rfl) (fun w' hC hd => TX.aA 43 (.pointer (some ⟨q, 13, none⟩)) rfl (fun ρ hρ hf e0 => TX.aB (by have hc0 := cc13 w' hC; go_simp))) (by go_frame; rfl) (by simp only [List.nil_append, List.cons_append]; rfl) ?_
 refine TX.ae (TX.aG hops rfl rfl rfl rfl) (fun w' hC hd => TX.fG 40 (.int .i64 D.pending) 44 (.int .i64 D.pending) rfl rfl (fun ρ hρ hf e0 e1 => TX.aB (by have hb0 := (show ((D.pending : Int) != D.pending) = false by simp); go_simp))) (by go_frame; rfl) (by simp only [List.nil_append, List.cons_append]; rfl) ?_
 refine TX.ae (TX.au rfl) (fun w' hC hd => TX.fZ _ _ _ false rfl rfl rfl) (by go_frame; rfl) (by simp only [List.nil_append, List.cons_append]; rfl) ?_
 refine TX.jT (fun w2 hC hk => hK _ _ ?_)
 have H2 := hid (hC.1 H0.out)
 have HT2 := hid hC.2
 clear hC hk hK cc0 ch2 cc12 cc13 HLk HSe HPl HGv HIn1 HIn2 HN
 have HIR : Hid (∀ k, k < D.refs.length → ∃ t, t ∈ D.live ∧ nth D.refs k = (t.h : Int) + 1 ∧ D.find (nth D.refs k) = some t) := hid (fun k hk => Jt HL.out.san hk)
 have HI64 : Hid (∀ k, k < D.refs.length → In64 (nth D.refs k)) := hid (fun k hk => zQ HL.out.lq.2.2 hk)
 have HLn : Hid (D.refs.length ≤ 8000) := hid (Nat.le_trans (xw _) HL.out.lq.2.1)
 have HRf := hid (H2.out.2.1.refs (by have := HL.out.lq.2.1; omega))
 go_wp2_with fail
 refine HRf.out.mono ?_
 rintro e w3 ⟨ar, cr, rfl, hr, hf, hb⟩
 have H3 := hid (H2.out.later hb)
 have HT3 := hid (HT2.out.trans (Touch.of_below hb))
 have HR3 := hid hr
 clear hr hf hb HRf
 go_wp2_with fail
 go_loopw [50] (fun s wx => ∃ k : Nat, k ≤ D.refs.length ∧ s = .int .i64 (k : Int) ∧ oV w p q lo c D D wx ∧ Touch (ak p) wr wx ∧ Row wx .i64 ar D.refs) (fun s _ => D.refs.length - (intOf s).toNat)
 case atStart => exact ⟨0, Nat.zero_le _, rfl, H3.out, HT3.out, HR3.out⟩
 case round =>
   obtain ⟨k, hk, rfl, hS, hT, hR⟩ := hrel
   have H4 := hid hS
   have HT4 := hid hT
   have HR4 := hid hR
   clear hS hT hR
   by_cases hlt : k < D.refs.length
   · obtain ⟨bb, off, rfl, hbb, hc⟩ := HR4.out k hlt
     obtain ⟨t, htl, hrt, hf⟩ := HIR.out k hlt
     have h64 := hid (HI64.out k hlt)
     have hk8 : k < 8000 := by have := HLn.out; omega
     obtain ⟨hz, hz1, hz2⟩ := HL.out.sz t htl
     have HLz : Hid (t.pt.length ≤ 10000 ∧ t.dt.length ≤ 10000) := hid ⟨hz1, hz2⟩
     have HZ := hid hz
     clear hz hz1 hz2 hrt htl
     generalize nth D.refs k = r at *
     have HF := hid hf
     clear hf
     have nb : (D.cnt r != D.cnt r) = false := by simp
     go_wp2_with fail
     refine (Nt HL.out.san HF.out H4.out.1).mono ?_
     rintro e w5 ⟨a1, c1, a2, c2, rfl, r1, r2, hb⟩
     have hbx := aU.new w5 #[.slice a1 t.pt.length c1, .slice a2 t.dt.length c2] 95
     have HB5 : Hid (Below _ _ (w5.alloc (.cells #[.slice a1 t.pt.length c1, .slice a2 t.dt.length c2] 95))) := hid (ay hb (ah w5 _))
     have H5 := hid (H4.out.later HB5.out)
     have HR1 := hid (r1.later (ah w5 (.cells #[.slice a1 t.pt.length c1, .slice a2 t.dt.length c2] 95)))
     have HR2 := hid (r2.later (ah w5 (.cells #[.slice a1 t.pt.length c1, .slice a2 t.dt.length c2] 95)))
     have HBx := hid hbx
     have hlt5 : w5.heap.size < (w5.alloc (.cells #[.slice a1 t.pt.length c1, .slice a2 t.dt.length c2] 95)).heap.size := by simp
     clear hb r1 r2 hbx
     generalize hn7 : w5.heap.size = n7 at *
     obtain ⟨hb, ch, hsee⟩ := H5.out.2.1.SG HF.out HZ.out
     have HSe := hid hsee
     clear hsee hc
     go_wp2_with fail
     generalize hw6 : w5.alloc (.cells #[.slice a1 t.pt.length c1, .slice a2 t.dt.length c2] 95) = w6 at *
     clear hw6
     refine HSe.out.mono ?_
     rintro e w7 ⟨b1, d1, b2, d2, rfl, s1, s2, hb7⟩
     have HB7 : Hid (Below _ _ (w7.alloc (.cells #[.slice b1 t.pt.length d1, .slice b2 t.dt.length d2] 95))) := hid (ay hb7 (ah w7 _))
     have H7 := hid (H5.out.later HB7.out)
     have HS1 := hid (s1.later (ah w7 (.cells #[.slice b1 t.pt.length d1, .slice b2 t.dt.length d2] 95)))
     have HS2 := hid (s2.later (ah w7 (.cells #[.slice b1 t.pt.length d1, .slice b2 t.dt.length d2] 95)))
     have HQ1 := hid (HR1.out.later HB7.out)
     have HQ2 := hid (HR2.out.later HB7.out)
     have HBy := hid (aU.new w7 #[.slice b1 t.pt.length d1, .slice b2 t.dt.length d2] 95)
     have HBz := hid (HBx.out.later HB7.out)
     generalize hn9 : w7.heap.size = n9 at *
     clear hb7 s1 s2 ch
     go_wp2_with fail
     generalize hw8 : w7.alloc (.cells #[.slice b1 t.pt.length d1, .slice b2 t.dt.length d2] 95) = w8 at *
     clear hw8
     refine (H7.out.1.Kt h64.out).mono ?_
     rintro e w9 ⟨rfl, hb9⟩
     have H9 := hid (H7.out.later hb9)
     have HB9 := hid hb9
     clear hb9
     go_wp2_with fail
     refine (H9.out.2.1.Pv r).mono ?_
     rintro e w10 ⟨rfl, rfl⟩
     have z70 := (HBz.out.later HB9.out).cell 0 rfl
     have z71 := (HBz.out.later HB9.out).cell 1 rfl
     have z90 := (HBy.out.later HB9.out).cell 0 rfl
     have z91 := (HBy.out.later HB9.out).cell 1 rfl
     go_wp2_with fail
     refine (Ay _ _ _ _ _ _ (lL D.w t) (HQ1.out.later HB9.out) (HS1.out.later HB9.out) HLz.out.1).mono ?_
     rintro e w11 ⟨rfl, hd⟩
     have HB11 := hid (ay HB9.out hd.new)
     have H11 := hid (H9.out.later hd.new)
     clear hd z70 z71 z90 z91
     have z71 := (HBz.out.later HB11.out).cell 1 rfl
     have z91 := (HBy.out.later HB11.out).cell 1 rfl
     go_wp2_with fail
     refine (Mf (EF D.w t) _ _ _ _ _ _ (nN D.w t) (HQ2.out.later HB11.out) (HS2.out.later HB11.out) (by have := HLz.out.2; unfold maxLen; omega)).mono ?_
     rintro e w12 ⟨rfl, hd⟩
     have H12 := hid (H11.out.later hd.new)
     have HBw : Hid (Below wr.heap.size wr w12) := hid (ay (ay (ay HB5.out HB7.out) HB11.out) hd.new)
     clear hd z71 z91
     go_wp2_with fail
     go_roundw
     case rel => exact ⟨k + 1, by omega, by go_num, H12.out, HT4.out.trans (Touch.of_below HBw.out), HR4.out.later HBw.out⟩
     case measure => simp [intOf]; omega
   · go_wp2_with fail
     go_ret
     exact ⟨rfl, H4.out, HT4.out⟩
end
section
variable {c : Cf} {zs zs' : List Int} {D D' : Wd} {t u : Th} {r x y : Int} {w wr w' : World} {p : Pl} {q lo m k n : Nat}
structure Sit (c : Cf) (D : Wd) : Prop where
 san : bY D
 ry : ∃ zs, Wz c zs ∧ aL c zs D
theorem kQ.sit (h : kQ w p c D wr) (S : bY D) : Sit c D := by
 obtain ⟨zs, m, hG, hR, _⟩ := h
 exact ⟨S, zs, hG.wz, hR⟩
theorem Sit.wb (h : Sit c D) (hN : c.N ≤ 1000) : WB D := by
 obtain ⟨zs, hz, R⟩ := h.ry
 have hp := h.san.LD R hz.may
 have h1 := cz R.ring.nd R.ring.lt
 have h2 : (D.grave.map (· - 1)).length ≤ c.N := cz R.grave.nd R.grave.lt
 have h3 := cz R.heap.pl.ch.nd R.heap.pl.ch.lt
 rw [List.length_map] at h2
 refine ⟨by omega, by omega, by omega, hp.1, by omega, fun r t hf => ?_, fun r t hf => ?_, fun r t hf => ?_⟩
 · have := (R.sizes hz (aC hf).1).2; omega
 · exact R.Pj hz (aC hf).1
 · have e := (R.own t (aC hf).1).w4
   have := hz.wf (ai c t.h 4)
   rw [← e]
   exact this
theorem Sit.lens (h : Sit c D) : D.ring.length ≤ c.N ∧ D.grave.length ≤ c.N ∧ D.clean.length ≤ c.N := by
 obtain ⟨zs, hz, R⟩ := h.ry
 have h1 := cz R.ring.nd R.ring.lt
 have h2 : (D.grave.map (· - 1)).length ≤ c.N := cz R.grave.nd R.grave.lt
 have h3 := cz R.heap.pl.ch.nd R.heap.pl.ch.lt
 rw [List.length_map] at h2
 exact ⟨h1, h2, h3⟩
theorem Sit.Na (h : Sit c D) (ht : t ∈ D.live) : EE D.w t := by
 obtain ⟨zs, hz, R⟩ := h.ry
 exact R.Na hz.may h.san ht
theorem Sit.wd (h : Sit c D) : D.w = c.W ∧ c.May := by
 obtain ⟨zs, hz, R⟩ := h.ry
 exact ⟨R.w, hz.may⟩
theorem Sit.step (h : Sit c D) : Sit c D.step := by
 obtain ⟨zs, hz, R⟩ := h.ry
 obtain ⟨zs1, _, R1, hz1⟩ := (Am (c := c) h.san).at hz R
 exact ⟨h.san.step, zs1, hz1, R1⟩
theorem Sit.SQ (hN : c.N ≤ 1000) : Stp (Sit c) where
 wb := fun D h => h.wb hN
 san := fun D h => h.san
 w1 := fun D h => by have := h.wd; have := this.2.w; omega
 pt := fun D h t ht => by have := (h.Na ht).small; omega
 step := fun D h => h.step
theorem Sit.NY (h : Sit c D) (hf : D.find r = some t) (hd : t.mr.dead = false) {k : Nat} (hk : k < t.pt.length + t.dt.length) : eP D.w t k = false := by
 obtain ⟨htl, _⟩ := aC hf
 have z := h.Na htl
 unfold eP
 by_cases hb : t.pt.length + t.dt.length ≤ D.w - 8
 · simp [hb]
 · have hj := z.leaf hb hk
   obtain ⟨b, hbb⟩ := (h.san.ok t htl).alive hd _ hj
   have : nth t.lv (k / (D.w - 1)) = (b : Int) := by unfold nth; rw [List.getD_eq_getElem?_getD, hbb]; rfl
   rw [this]
   simp
theorem Cr (r : Int) (i : Nat) (x : Int) : ∃ l, (D.drain r i x).grave = D.grave ++ l := by
 have key : ∀ D2 : Wd, D2.grave = D.grave → ∃ l, (if (D2.down x).cnt x = 0 then (D2.down x).bW x else D2.down x).grave = D.grave ++ l := fun D2 h2 => by
   split
   · obtain ⟨l, hl⟩ := EL (D := D2.down x) x
     exact ⟨l, by rw [hl]; show D2.grave ++ l = _; rw [h2]⟩
   · exact ⟨[], by rw [List.append_nil]; exact h2⟩
 unfold Wd.drain
 by_cases hc : (D.aI r i 0).cnt x = 0
 · rw [if_pos hc]; exact ⟨[], by rw [List.append_nil]; rfl⟩
 · rw [if_neg hc]
   refine key _ ?_
   split
   · exact (gV (D := D.aI r i 0) x).2.1
   · rfl
theorem GJ : ∀ (k : Nat) {D : Wd} {g : Nat} {rest : List Nat} {t : Th}, bY D → D.grave = g :: rest → D.find (g : Int) = some t → t.mr.left - D.ahead t.mr.leaves ≤ (k : Int) → Ends (k + 1) D
 | 0, D, g, rest, t, S, hg, hf, hk => by
   right; left
   unfold Wd.gives
   rw [hg]
   simp only
   rw [hf]
   simp
   omega
 | k + 1, D, g, rest, t, S, hg, hf, hk => by
   right
   by_cases ha : D.ahead t.mr.leaves < t.mr.left
   · right
     obtain ⟨t', _, _, hf', hd, d, es⟩ := S.head hg
     rw [hf] at hf'
     cases hf'
     have hst : D.step = (D.drain (g : Int) (t.mr.left - 1).toNat (nth t.pt (t.mr.left - 1).toNat)).mark (g : Int) (fun m => { m with left := t.mr.left - 1 }) := by
       rw [es]
       unfold Wd.work
       rw [if_pos ha]
     obtain ⟨l, hl⟩ := Cr (D := D) (g : Int) (t.mr.left - 1).toNat (nth t.pt (t.mr.left - 1).toNat)
     obtain ⟨f, h1, h2, h3, h4⟩ := rD hf hd (t.mr.left - 1).toNat (nth t.pt (t.mr.left - 1).toNat)
     have hg2 : D.step.grave = g :: (rest ++ l) := by rw [hst]; show (D.drain _ _ _).grave = _; rw [hl, hg]; rfl
     have hf2 : D.step.find (g : Int) = some { t with pt := t.pt.set (t.mr.left - 1).toNat 0, mr := { f t.mr with left := t.mr.left - 1 } } := by
       rw [hst, bZ, h1]
       have := dZ h1
       simp only [Option.map_some, this, if_true]
     have hw : D.step.w = D.w := by rw [hst]; exact (GI (D := D) (r := (g : Int)) _ _).1
     refine GJ k S.step hg2 hf2 ?_
     show t.mr.left - 1 - D.step.ahead (f t.mr).leaves ≤ (k : Int)
     have : D.step.ahead (f t.mr).leaves = D.ahead t.mr.leaves := by unfold Wd.ahead; rw [h4, hw]
     rw [this]
     omega
   · left
     unfold Wd.gives
     rw [hg]
     simp only
     rw [hf]
     simp
     omega
theorem bY.ends (S : bY D) {n : Nat} (hn : D.w ≤ n) : Ends n D := by
 have hw := S.w
 cases hg : D.grave with
 | nil =>
   cases n with
   | zero => exact hg
   | succ n => exact .inl hg
 | cons g rest =>
   obtain ⟨t, htl, _, hf, hd, d, _⟩ := S.head hg
   obtain ⟨n', rfl⟩ : ∃ n', n = n' + 1 := ⟨n - 1, by omega⟩
   refine GJ n' S hg hf ?_
   have vS := (S.ok t htl).vS
   have l0 := d.l0
   have f1 := d.f1
   by_cases hl : 0 < t.mr.leaves
   · have hne : t.lv ≠ [] := fun e => by have := d.l1; rw [e] at this; simp at this; omega
     have h1 := d.fl hne
     rw [ze S hl]
     have h2 : (t.mr.leaves - 1) * ((D.w : Int) - 1) = t.mr.leaves * ((D.w : Int) - 1) - ((D.w : Int) - 1) := by rw [Int.sub_mul, Int.one_mul]
     rw [h2]
     omega
   · have h0 : t.mr.leaves = 0 := by omega
     rw [h0, ahead_zero]
     by_cases hb : t.pt.length + t.dt.length ≤ D.w - 8
     · omega
     · have h1 := d.fl (vS.big hb).1
       rw [h0, Int.zero_mul] at h1
       omega
set_option maxHeartbeats 1000000 in
theorem Fv (h : kQ w p c D wr) (S : bY D) :
   Calls Tryz.prog 52 #[.pointer (some ⟨p.a, 0, none⟩)] wr fun e w' => e = .returned (.bool (D.iW (c.W * c.W))) ∧ (kQ w p c (D.gN (c.W * c.W)) w' ∧ bY (D.gN (c.W * c.W))) ∧ Touch (ak p) wr w' := by
 have hw := (h.sit S).wd.2.w
 have HC := hid h.OZ
 have H0 := hid h
 have HS := hid S
 have hmm : (c.W : Int) * (c.W : Int) = ((c.W * c.W : Nat) : Int) := (Int.natCast_mul _ _).symm
 have hml : c.W * c.W ≤ 256 * 256 := Nat.mul_le_mul (by omega) (by omega)
 have hwr : IntKind.i64.wrap ((c.W : Int) * (c.W : Int)) = ((c.W * c.W : Nat) : Int) := by rw [hmm]; exact IntWalk.i64_in _ (by omega)
 have hfc := kG (c.N : Int) (c.W : Int) (c.R : Int) (c.K : Int)
 generalize hMd : c.W * c.W = M at *
 clear h S hw hmm hMd
 go_enter Tryz.func52, Tryz.ntmps52
 go_wp2_with fail
 refine HC.out.mono ?_
 rintro e w1 ⟨rfl, hb⟩
 have H1 := hid (H0.out.later hb)
 have T1 := hid (Touch.of_below (X := ak p) hb)
 clear hb
 go_wp2_with fail
 go_loopw [12] (fun s wx => ∃ i : Nat, i ≤ M ∧ s = .int .i64 (i : Int) ∧ ∃ D', kQ w p c D' wx ∧ bY D' ∧ D'.gN (M - i) = D.gN M ∧ D'.iW (M - i) = D.iW M ∧ Touch (ak p) wr wx) (fun s _ => M - (intOf s).toNat)
 case atStart => exact ⟨0, Nat.zero_le _, rfl, D, H1.out, HS.out, rfl, rfl, T1.out⟩
 case round =>
   obtain ⟨i, hi, rfl, D', hR, hS, e1, e2, hT⟩ := hrel
   have HR := hid hR
   have HT := hid hT
   have HSn := hid hS
   by_cases hlt : i < M
   · have rT := hid (Am (c := c) hS)
     have hmi : M - i = (M - (i + 1)) + 1 := by omega
     rw [hmi] at e1 e2
     cases hg : D'.grave.isEmpty with
     | true =>
       have E : Hid (D'.step = D.gN M ∧ false = D.iW M ∧ D'.step = D') := hid (by
         have hs : D'.step = D' := by
           unfold Wd.step
           have := List.isEmpty_iff.1 hg
           rw [this]
         rw [hs, ← e1, ← e2]
         unfold Wd.gN Wd.iW
         rw [hg]
         exact ⟨rfl, rfl, rfl⟩)
       have hgv : D'.gives = false := by
         unfold Wd.gives
         rw [List.isEmpty_iff.1 hg]
       rw [hg, hgv] at rT
       clear hR hS e1 e2 hT hg hgv
       go_wp2_with fail
       refine (HR.out.does rT.out).mono ?_
       rintro e w2 ⟨rfl, h2, k2⟩
       have H2 := hid h2
       have T2 := hid (HT.out.trans k2)
       clear h2 k2
       go_wp2_with fail
       go_ret
       exact ⟨by rw [← E.out.2.1]; rfl, ⟨by rw [← E.out.1]; exact H2.out, by rw [← E.out.1]; exact HSn.out.step⟩, T2.out⟩
     | false =>
       cases hgv : D'.gives with
       | true =>
         have E : Hid (D'.step = D.gN M ∧ true = D.iW M) := hid (by
           rw [← e1, ← e2]
           unfold Wd.gN Wd.iW
           rw [hg, hgv]
           exact ⟨rfl, rfl⟩)
         rw [hg, hgv] at rT
         clear hR hS e1 e2 hT hg hgv
         go_wp2_with fail
         refine (HR.out.does rT.out).mono ?_
         rintro e w2 ⟨rfl, h2, k2⟩
         have H2 := hid h2
         have T2 := hid (HT.out.trans k2)
         clear h2 k2
         go_wp2_with fail
         go_ret
         exact ⟨by rw [← E.out.2]; rfl, ⟨by rw [← E.out.1]; exact H2.out, by rw [← E.out.1]; exact HSn.out.step⟩, T2.out⟩
       | false =>
         have E : Hid (D'.step.gN (M - (i + 1)) = D.gN M ∧ D'.step.iW (M - (i + 1)) = D.iW M) := hid (by
           rw [← e1, ← e2]
           constructor
           · conv => rhs; unfold Wd.gN
             rw [hg, hgv]
             rfl
           · conv => rhs; unfold Wd.iW
             rw [hg, hgv]
             rfl)
         rw [hg, hgv] at rT
         clear hR hS e1 e2 hT hg hgv
         go_wp2_with fail
         refine (HR.out.does rT.out).mono ?_
         rintro e w2 ⟨rfl, h2, k2⟩
         have H2 := hid h2
         have T2 := hid (HT.out.trans k2)
         clear h2 k2
         go_wp2_with fail
         go_roundw
         case rel => exact ⟨i + 1, by omega, by go_num, _, H2.out, HSn.out.step, E.out.1, E.out.2, T2.out⟩
         case measure => simp [intOf]; omega
   · have E : Hid (D' = D.gN M ∧ false = D.iW M) := hid (by
       rw [← e1, ← e2, show M - i = 0 by omega]
       exact ⟨rfl, rfl⟩)
     clear hR hS e1 e2 hT
     go_wp2_with fail
     go_ret
     exact ⟨by rw [← E.out.2]; rfl, ⟨by rw [← E.out.1]; exact HR.out, by rw [← E.out.1]; exact HSn.out⟩, HT.out⟩
theorem zU (l pool : List Nat) : ∀ k, jR c l pool k ≤ k * (c.W + 7)
 | 0 => by simp [jR]
 | k + 1 => by
   have := zU l pool k
   have ht : takeD (l.drop (k + 1) ++ pool) ≤ 7 := by unfold takeD; split <;> omega
   show jR c l pool k + (takeD (l.drop (k + 1) ++ pool) + c.W) ≤ _
   rw [Nat.add_mul]
   omega
theorem Jb (D : Wd) (x y : Int) (h : MW w p c D m wr) :
   Calls Tryz.prog 93 #[.pointer (some ⟨p.a, 0, none⟩), .int .i64 x, .int .i64 y] wr fun e w' => e = .returned (.tuple #[.int .i64 (D.iw x y), .int .i64 (D.kE x y)]) ∧ (∃ d, d ≤ 8 + 2 * c.W * (if D.kE x y = 0 then 1 + D.qB x y else 0) ∧ MW w p c (D.jF x y) (m + d) w') ∧ Touch (ak p) wr w' := by
 obtain ⟨zs, hG, hR, hp, hB⟩ := h
 have hW : (D.w : Int) = (c.W : Int) := by rw [hR.w]
 by_cases h0 : D.kE x y = 0
 · obtain ⟨hs, ex, ey, _, _, hcl, hk⟩ := wY h0
   have hH := hR.heap
   rw [hcl] at hH
   rw [hW] at hs hk
   have H := vg (s := ⟨zs, m⟩) (w := wr) D.tX x.toNat y.toNat (D.clean.tail.take (D.qB x y)) (D.clean.tail.drop (D.qB x y)) D.bK hG hH (by rw [ex, ey]; exact hs) (by rw [ex, ey]; exact hk)
   have hM := Hm (h := D.tX) (ls := D.clean.tail.take (D.qB x y)) (pool := D.clean.tail.drop (D.qB x y)) (os := D.bK) (p := x.toNat) (d := y.toNat) hG.wz.may hG.wz.len hH (by rw [ex, ey]; exact hs) (by rw [ex, ey]; exact hk)
   rw [ex, ey] at H hM
   refine H.mono ?_
   rintro e w' ⟨rfl, hG', hT⟩
   refine ⟨by unfold Wd.iw; rw [h0]; rfl, ⟨_, ?_, _, hG', ?_, hp, hB.trans (hT.below hp hB.size)⟩, hT⟩
   · rw [if_pos h0]
     have hlen : (D.clean.tail.take (D.qB x y)).length ≤ D.qB x y := by rw [List.length_take]; omega
     have h1 := zU (c := c) (D.tX :: D.clean.tail.take (D.qB x y)) (D.clean.tail.drop (D.qB x y)) (D.tX :: D.clean.tail.take (D.qB x y)).length
     have hw := hG.wz.may.w
     unfold zF
     generalize D.clean.tail.take (D.qB x y) = L at *
     rw [List.length_cons] at h1 ⊢
     generalize D.qB x y = K at *
     have h2 : (L.length + 1) * (c.W + 7) ≤ (K + 1) * (c.W + 7) := Nat.mul_le_mul_right _ (by omega)
     have h3 : (K + 1) * (c.W + 7) + (K + 1) * 9 ≤ (K + 1) * (2 * c.W) := by rw [← Nat.mul_add]; exact Nat.mul_le_mul_left _ (by omega)
     have h4 : 2 * c.W * (1 + K) = (K + 1) * (2 * c.W) := by rw [Nat.mul_comm, Nat.add_comm]
     rw [h4]
     omega
   · unfold Wd.jF
     rw [if_pos h0]
     exact hM.ry hR hG.may hcl
 · have hD : D.jF x y = D := by unfold Wd.jF; rw [if_neg h0]
   have hRv : D.iw x y = 0 := by unfold Wd.iw; rw [if_neg h0]
   rw [hD, hRv]
   by_cases hs : bA (D.w : Int) x y = 0
   · have hl : (D.clean.length : Int) < aX (D.w : Int) x y := by
       by_cases hl : (D.clean.length : Int) < aX (D.w : Int) x y
       · exact hl
       · exact absurd (by unfold Wd.kE; rw [if_pos hs, if_neg hl]) h0
     have hE : D.kE x y = 4 := by unfold Wd.kE; rw [if_pos hs, if_pos hl]
     rw [hE]
     rw [hW] at hs hl
     refine (sN (s := ⟨zs, m⟩) (w := wr) x y D.clean hG hR.heap.pl.ch hs hl).mono ?_
     rintro e w' ⟨rfl, hG', hT⟩
     exact ⟨rfl, ⟨1, by omega, zs, hG', hR, hp, hB.trans (hT.below hp hB.size)⟩, hT⟩
   · have hE : D.kE x y = bA (c.W : Int) x y := by unfold Wd.kE; rw [if_neg hs, hW]
     rw [hE]
     rw [hW] at hs
     refine (sO (s := ⟨zs, m⟩) (w := wr) x y hG hs).mono ?_
     rintro e w' ⟨rfl, hG', hT⟩
     exact ⟨rfl, ⟨0, by omega, zs, hG', hR, hp, hB.trans (hT.below hp hB.size)⟩, hT⟩
end
section
variable {c : Cf} {D D' : Wd} {t u : Th} {r x y : Int} {k K N n : Nat}
def jC (k : Nat) (D : Wd) : Prop := ∀ q t, D.find q = some t → t.mr.refs ≤ (k : Int) ∧ t.mr.shadow ≤ (k : Int)
theorem jC.mono (h : jC k D) (hk : k ≤ K) : jC K D := fun q t hf => by have := h q t hf; omega
theorem jC.ts (h : jC k D) (e : D'.ts = D.ts) : jC k D' := fun q t hf => h q t (by unfold Wd.find at *; rw [← e]; exact hf)
theorem jC.upd (h : jC k D) (r : Int) (g : Th → Th) (hk : k ≤ K) (hg : ∀ t, (g t).ended = t.ended ∧ (g t).h = t.h) (h1 : ∀ t, D.find r = some t → (g t).mr.refs ≤ (K : Int) ∧ (g t).mr.shadow ≤ (K : Int)) : jC K (D.upd r g) := fun q s hs => by
 rw [pz hg] at hs
 cases hq : D.find q with
 | none => rw [hq] at hs; cases hs
 | some t =>
   rw [hq] at hs
   simp only [Option.map_some, Option.some.injEq] at hs
   by_cases e : t.at r = true
   · rw [if_pos e] at hs
     have hr : q = r := by
       have := (aC hq).2
       unfold Th.at at e
       simp at e
       omega
     subst hs
     exact h1 t (by rw [← hr]; exact hq)
   · rw [if_neg e] at hs
     subst hs
     have := h q t hq
     omega
theorem jC.mark (h : jC k D) (r : Int) (f : cO → cO) (hk : k ≤ K) (h1 : ∀ t, D.find r = some t → (f t.mr).refs ≤ (K : Int) ∧ (f t.mr).shadow ≤ (K : Int)) : jC K (D.mark r f) :=
 h.upd r (fun t => { t with mr := f t.mr }) hk (fun _ => ⟨rfl, rfl⟩) h1
theorem jC.keep (h : jC k D) (r : Int) (f : cO → cO) (h1 : ∀ m, (f m).refs ≤ m.refs) (h2 : ∀ m, (f m).shadow ≤ m.shadow) : jC k (D.mark r f) :=
 h.mark r f (Nat.le_refl _) (fun t ht => by have := h r t ht; have := h1 t.mr; have := h2 t.mr; omega)
theorem jC.aI (h : jC k D) (r : Int) (i : Nat) (x : Int) : jC k (D.aI r i x) := h.upd r (fun t => { t with pt := t.pt.set i x }) (Nat.le_refl _) (fun _ => ⟨rfl, rfl⟩) (fun t ht => h r t ht)
theorem jC.touch (h : jC k D) (r : Int) : jC k (D.touch r) := by
 rcases nu (D := D) r with e | e
 · exact h.ts e
 · exact (h.keep r (fun m => { m with color := D.parity }) (fun _ => Int.le_refl _) (fun _ => Int.le_refl _)).ts e
theorem jC.more (h : jC k D) (r : Int) : jC (k + 1) (D.more r) :=
 (h.mark r (fun m => { m with refs := m.refs + 1 }) (Nat.le_succ k) (fun t ht => by have := h r t ht; show t.mr.refs + 1 ≤ _ ∧ t.mr.shadow ≤ _; omega)).touch r
theorem jC.down (h : jC k D) (r : Int) : jC k (D.down r) := h.keep r (fun m => { m with refs := m.refs - 1 }) (fun m => by show m.refs - 1 ≤ m.refs; omega) (fun _ => Int.le_refl _)
theorem jC.aJ (h : jC k D) (r : Int) : jC k (D.aJ r) := by
 unfold Wd.aJ
 split
 · exact h.keep r (fun m => { m with shadow := m.shadow - 1 }) (fun _ => Int.le_refl _) (fun m => by show m.shadow - 1 ≤ m.shadow; omega)
 · exact h
theorem jC.bW (h : jC k D) (x : Int) : jC k (D.bW x) := by
 unfold Wd.bW
 cases hf : D.find x with
 | none => exact h
 | some t =>
   simp only
   split
   · exact h
   · have : jC k (D.upd x (fun s => { s with mr := { s.mr with dead := true, left := (t.pt.length : Int), leaves := (t.lv.length : Int) } })) := h.upd x _ (Nat.le_refl _) (fun _ => ⟨rfl, rfl⟩) (fun u hu => h x u hu)
     exact this.ts (uo x t)
theorem jC.inter (h : jC k D) (x : Int) : jC k (D.inter x) := by
 unfold Wd.inter
 split
 · exact h.bW x
 · exact h
theorem jC.less (h : jC k D) (r : Int) : jC k (D.less r) := ((h.down r).ts (D' := (D.down r).rA) rfl).inter r
theorem jC.drain (h : jC k D) (r : Int) (i : Nat) (x : Int) : jC k (D.drain r i x) := by
 have key : ∀ D2 : Wd, jC k D2 → jC k (if (D2.down x).cnt x = 0 then (D2.down x).bW x else D2.down x) := fun D2 h2 => by
   split
   · exact (h2.down x).bW x
   · exact h2.down x
 unfold Wd.drain
 by_cases hc : (D.aI r i 0).cnt x = 0
 · rw [if_pos hc]; exact h.aI r i 0
 · rw [if_neg hc]
   refine key _ ?_
   split
   · exact (h.aI r i 0).aJ x
   · exact h.aI r i 0
theorem jC.step (h : jC k D) (S : bY D) : jC k D.step := by
 cases hg : D.grave with
 | nil => rw [show D.step = D by unfold Wd.step; rw [hg]]; exact h
 | cons g rest =>
   obtain ⟨t, htl, _, hf, hd, d, es⟩ := S.head hg
   rw [es]
   unfold Wd.work
   split
   · exact (h.drain _ _ _).keep _ _ (fun _ => Int.le_refl _) (fun _ => Int.le_refl _)
   · split
     · have h1 : jC k (D.upd (g : Int) (fun s => { s with lv := s.lv.set (t.mr.leaves - 1).toNat (-1), mr := { s.mr with leaves := t.mr.leaves - 1 } })) := h.upd _ _ (Nat.le_refl _) (fun _ => ⟨rfl, rfl⟩) (fun u hu => h _ u hu)
       exact h1.ts (Cm _ _ _ _)
     · intro q s hs
       have hlive : ({ ({ D with grave := rest } : Wd).kg (g : Int) t.h with pending := D.pending - 1 } : Wd).live = D.live.filter (fun s => s.h != t.h) := ji (g := fun s => { s with ended := true }) (fun _ => rfl) S.nd hf
       obtain ⟨hl, e⟩ := aC hs
       rw [hlive] at hl
       have hl2 := (List.mem_filter.1 hl).1
       have := S.jI hl2
       rw [e] at this
       exact h q s this
theorem jC.put (h : jC k D) (r : Int) (i : Nat) (x y : Int) : jC (k + 1) (D.put r i x y) := by
 have h1 : jC (k + 1) (D.bQ r i x) := by
   unfold Wd.bQ
   split
   · exact (h.aI r i x).mono (Nat.le_succ k)
   · exact (h.more x).aI r i x
 unfold Wd.put Wd.vK
 split
 · exact (h1.touch y).less y
 · exact h1
def QR (N k : Nat) (l : List Nat) : Prop := l.length ≤ k ∧ ∀ h, h ∈ l → h < N
theorem Ej (x : Int) : (D.touch x).ts.map Th.h = D.ts.map Th.h := by
 rcases nu (D := D) x with h | h
 · rw [h]
 · rw [h]; exact iE x _
theorem AQ (x : Int) : (D.more x).ts.map Th.h = D.ts.map Th.h := (Ej x).trans (iE x _)
theorem Hf (x : Int) : (D.less x).ts.map Th.h = D.ts.map Th.h := (KX (D := (D.down x).rA) x).trans (show (D.down x).rA.ts.map Th.h = D.ts.map Th.h from iE (D := D) x (fun m => { m with refs := m.refs - 1 }))
theorem Qh (r : Int) (i : Nat) (x y : Int) : (D.put r i x y).ts.map Th.h = D.ts.map Th.h := by
 have h1 : (D.bQ r i x).ts.map Th.h = D.ts.map Th.h := by
   unfold Wd.bQ
   split
   · exact tC r i x
   · exact (tC (D := D.more x) r i x).trans (AQ x)
 unfold Wd.put Wd.vK
 split
 · exact (Hf y).trans ((Ej y).trans h1)
 · exact h1
structure di (c : Cf) (k : Nat) (D : Wd) : Prop where
 san : bY D
 bd : jC k D
 hd : QR c.N k (D.ts.map Th.h)
theorem di.new (c : Cf) {v : Nat} (hv : 16 ≤ v) : di c 0 (Wd.new c.N v) := ⟨bY.new c.N hv, fun q t hf => by simp [Wd.find, Wd.new, bS] at hf, by simp [Wd.new, QR]⟩
theorem QR.mono {l : List Nat} (h : QR N k l) (hk : k ≤ K) : QR N K l := ⟨Nat.le_trans h.1 hk, h.2⟩
theorem di.mono (I : di c k D) (hk : k ≤ K) : di c K D := ⟨I.san, I.bd.mono hk, I.hd.mono hk⟩
theorem di.up (I : di c k D) : di c (k + 1) D := I.mono (Nat.le_succ k)
theorem di.to (I : di c k D) (S : bY D') (B : jC (k + 1) D') (e : D'.ts.map Th.h = D.ts.map Th.h) : di c (k + 1) D' := ⟨S, B, by rw [e]; exact I.hd.mono (Nat.le_succ k)⟩
theorem di.step (I : di c k D) : di c k D.step := ⟨I.san.step, I.bd.step I.san, by rw [Oz]; exact I.hd⟩
theorem di.gN (I : di c k D) : ∀ n, di c k (D.gN n) := fun n => by
 induction n generalizing D with
 | zero => exact I
 | succ n ih =>
   unfold Wd.gN
   split
   · exact I
   · split
     · exact I.step
     · exact ih I.step
theorem di.mU (I : di c k D) (r : Int) : di c (k + 1) (D.mU r) := by
 unfold Wd.mU
 split
 · exact I.to (I.san.less r) ((I.bd.less r).mono (Nat.le_succ k)) (Hf r)
 · exact I.up
def Wd.oG (D : Wd) (r : Int) : Wd := if D.dn r then D.more r else D
theorem di.oG (I : di c k D) (r : Int) : di c (k + 1) (D.oG r) := by
 unfold Wd.oG
 split
 · exact I.to (I.san.more r) (I.bd.more r) (AQ r)
 · exact I.up
theorem di.put (I : di c k D) (hf : D.find r = some t) (hd : t.mr.dead = false) (i : Nat) (x y : Int) : di c (k + 1) (D.put r i x y) :=
 I.to (I.san.RI hf hd) (I.bd.put r i x y) (Qh r i x y)
theorem di.turn (I : di c k D) : di c (k + 1) D.turn := I.to (I.san.tu rfl rfl rfl rfl (fun b hb => .inl hb)) ((I.bd.mono (Nat.le_succ k)).ts rfl) rfl
theorem di.jH (I : di c k D) (i : Int) : di c (k + 1) (D.jH i) := by
 unfold Wd.jH
 split
 · exact I.to (I.san.tu rfl rfl rfl rfl (fun b hb => .inl hb)) ((I.bd.mono (Nat.le_succ k)).ts rfl) rfl
 · exact I.up
theorem di.iZ (I : di c k D) (r : Int) : di c (k + 1) (D.iZ r) := by
 refine I.to (I.san.mark r (fun _ => rfl) (fun _ => rfl) (fun _ => rfl)) (I.bd.mark r _ (Nat.le_succ k) (fun t ht => ?_)) (iE r _)
 have h1 := I.bd r t ht
 refine ⟨by show t.mr.refs ≤ _; omega, ?_⟩
 show D.gT r + 1 ≤ _
 unfold Wd.gT
 rw [ht]
 show (if t.mr.shade = D.parity then t.mr.shadow else 0) + 1 ≤ _
 split <;> omega
theorem di.done (I : di c k D) (r : Int) : di c (k + 1) (D.done r) :=
 I.to (I.san.mark r (fun _ => rfl) (fun _ => rfl) (fun _ => rfl)) ((I.bd.keep r (fun m => { m with count := D.parity }) (fun _ => Int.le_refl _) (fun _ => Int.le_refl _)).mono (Nat.le_succ k)) (iE r _)
theorem zq : ∀ {l1 l2 : List Th} {q : Int} {s : Th}, bS q (l1 ++ l2) = some s → bS q l1 = some s ∨ bS q l2 = some s
 | [], l2, q, s, h => .inr h
 | u :: l, l2, q, s, h => by
   have e0 : bS q ((u :: l) ++ l2) = if u.at q then some u else bS q (l ++ l2) := rfl
   have e1 : bS q (u :: l) = if u.at q then some u else bS q l := rfl
   rw [e0] at h
   rw [e1]
   by_cases e : u.at q = true
   · rw [if_pos e] at h ⊢; exact .inl h
   · rw [if_neg e] at h ⊢; exact zq h
theorem di.born (I : di c k D) (B : nH D x y c.N) : di c (k + 1) (D.born x y) := by
 refine ⟨B.RX I.san, ?_, ?_⟩
 · unfold Wd.born
   split
   · rename_i hE
     have h1 : jC k (D.jF x y) := by
       unfold Wd.jF
       rw [if_pos hE]
       intro q s hs
       have hs : bS q (D.ts ++ [_]) = some s := hs
       rcases zq hs with h | h
       · exact I.bd q s h
       · have : s = ⟨D.tX, ints (D.clean.tail.take (D.qB x y)), jX x.toNat, jX y.toNat, false, cO.new⟩ := by
           unfold bS at h
           split at h
           · exact (Option.some.inj h).symm
           · simp [bS] at h
         subst this
         show (0 : Int) ≤ _ ∧ (0 : Int) ≤ _
         omega
     exact (h1.mark _ _ (Nat.le_refl _) (fun t ht => ⟨(h1 _ t ht).1, by show (0 : Int) ≤ _; omega⟩)).more _
   · exact I.bd.mono (Nat.le_succ k)
 · unfold Wd.born
   split
   · rename_i hE
     have e1 : (((D.jF x y).oQ (D.iw x y)).more (D.iw x y)).ts.map Th.h = (D.jF x y).ts.map Th.h := (AQ _).trans (iE _ _)
     have e2 : (D.jF x y).ts.map Th.h = D.ts.map Th.h ++ [D.tX] := by unfold Wd.jF; rw [if_pos hE]; show (D.ts ++ [_]).map Th.h = _; rw [List.map_append]; rfl
     rw [e1, e2]
     refine ⟨by rw [List.length_append]; have := I.hd.1; simp at *; omega, fun h hh => ?_⟩
     rcases List.mem_append.1 hh with hh | hh
     · exact I.hd.2 h hh
     · rw [List.mem_singleton.1 hh]; exact B.lt hE
   · exact I.hd.mono (Nat.le_succ k)
end
section
variable {w wr w' : World} {p : Pl} {q lo m k n : Nat} {c : Cf} {D D2 D' : Wd} {t u : Th} {r i x y sp sd : Int}
def tY (w : World) (p : Pl) (q lo : Nat) (c : Cf) (D' : Wd) (e : Ending) (w' : World) : Prop := e = .returned (.bool true) ∧ oV w p q lo c D' D' w'
theorem rE (b : Bool) : (b == b) = true := by cases b <;> rfl
set_option maxHeartbeats 2000000 in
theorem Rz (h : lV w p q lo c D D m wr) (hP : Sit c D) (hN : c.N ≤ 1000) (r i x sp sd : Int) :
   Calls Tryz.prog 15 #[.pointer (some ⟨p.a, 0, none⟩), .pointer (some ⟨q, 0, none⟩), .agg #[.int .u8 5, .int .i64 r, .int .i64 i, .int .i64 x, .int .i64 sp, .int .i64 sd]] wr (tY w p q lo c D.step) := by
 have HBk := hid (aU.new wr #[.int .u8 5, .int .i64 r, .int .i64 i, .int .i64 x, .int .i64 sp, .int .i64 sd] 33)
 have HNo := hid h.box
 have HT0 := hid (h.later (ah wr (.cells #[.int .u8 5, .int .i64 r, .int .i64 i, .int .i64 x, .int .i64 sp, .int .i64 sd] 33)))
 have HWh := hid (fun wz (hz : oV w p q lo c D D wz) => hz.world (hz.2.1.stepW (Sit.SQ hN) hP))
 have rT := hid (Ns (c := c) hP.san)
 have n1 := rE (!D.grave.isEmpty)
 clear h hP
 go_enter Tryz.func15, Tryz.ntmps15
 go_wp2_with fail
 generalize wr.alloc (.cells #[.int .u8 5, .int .i64 r, .int .i64 i, .int .i64 x, .int .i64 sp, .int .i64 sd] 33) = w0 at *
 generalize wr.heap.size = n0 at *
 have b0 : w0.cell? ⟨n0, 0, none⟩ = some (.int .u8 5) := HBk.out.cell 0 rfl
 have b1 : w0.cell? ⟨n0, 1, none⟩ = some (.int .i64 r) := HBk.out.cell 1 rfl
 have b2 : w0.cell? ⟨n0, 2, none⟩ = some (.int .i64 i) := HBk.out.cell 2 rfl
 have b3 : w0.cell? ⟨n0, 3, none⟩ = some (.int .i64 x) := HBk.out.cell 3 rfl
 have b4 : w0.cell? ⟨n0, 4, none⟩ = some (.int .i64 sp) := HBk.out.cell 4 rfl
 have b5 : w0.cell? ⟨n0, 5, none⟩ = some (.int .i64 sd) := HBk.out.cell 5 rfl
 refine (HT0.out.jl).mono ?_
 rintro e wm ⟨rfl, rfl⟩
 go_wp2_with fail
 refine (HWh.out _ HT0.out.st).mono ?_
 rintro e w1 ⟨rfl, hS, hT⟩
 have H1 := hid hS
 clear hS hT
 go_wp2_with fail
 refine (H1.out.does rT.out).mono ?_
 rintro e w2 ⟨rfl, hS, hT⟩
 have H2 := hid hS
 clear hS hT
 go_wp2_with fail
 go_ret
 exact ⟨rfl, H2.out⟩
set_option maxHeartbeats 2000000 in
theorem RA (h : lV w p q lo c D D m wr) (hP : Sit c D) (hN : c.N ≤ 1000) (r i x sp sd : Int) :
   Calls Tryz.prog 15 #[.pointer (some ⟨p.a, 0, none⟩), .pointer (some ⟨q, 0, none⟩), .agg #[.int .u8 6, .int .i64 r, .int .i64 i, .int .i64 x, .int .i64 sp, .int .i64 sd]] wr (tY w p q lo c (D.gN (c.W * c.W))) := by
 have HBk := hid (aU.new wr #[.int .u8 6, .int .i64 r, .int .i64 i, .int .i64 x, .int .i64 sp, .int .i64 sd] 33)
 have HNo := hid h.box
 have HT0 := hid (h.later (ah wr (.cells #[.int .u8 6, .int .i64 r, .int .i64 i, .int .i64 x, .int .i64 sp, .int .i64 sd] 33)))
 have hE : Ends (c.W * c.W) D := hP.san.ends (by
   rw [hP.wd.1]
   have := hP.wd.2.w
   exact Nat.le_trans (by omega) (Nat.mul_le_mul_left c.W (show 1 ≤ c.W by omega)))
 have HWh := hid (fun wz D1 (hz : oV w p q lo c D1 D wz) => hz.world (JP hz.2.1 (Sit.SQ hN) hP hE))
 have HRl := hid (fun wz D2 (hz : oV w p q lo c D D2 wz) => Fv hz.1 hP.san)
 have n1 := rE (D.iW (c.W * c.W))
 generalize D.iW (c.W * c.W) = vb at *
 generalize D.gN (c.W * c.W) = DR at *
 clear h hP hE
 go_enter Tryz.func15, Tryz.ntmps15
 go_wp2_with fail
 generalize wr.alloc (.cells #[.int .u8 6, .int .i64 r, .int .i64 i, .int .i64 x, .int .i64 sp, .int .i64 sd] 33) = w0 at *
 generalize wr.heap.size = n0 at *
 have b0 : w0.cell? ⟨n0, 0, none⟩ = some (.int .u8 6) := HBk.out.cell 0 rfl
 have b1 : w0.cell? ⟨n0, 1, none⟩ = some (.int .i64 r) := HBk.out.cell 1 rfl
 have b2 : w0.cell? ⟨n0, 2, none⟩ = some (.int .i64 i) := HBk.out.cell 2 rfl
 have b3 : w0.cell? ⟨n0, 3, none⟩ = some (.int .i64 x) := HBk.out.cell 3 rfl
 have b4 : w0.cell? ⟨n0, 4, none⟩ = some (.int .i64 sp) := HBk.out.cell 4 rfl
 have b5 : w0.cell? ⟨n0, 5, none⟩ = some (.int .i64 sd) := HBk.out.cell 5 rfl
 refine (HT0.out.jl).mono ?_
 rintro e wm ⟨rfl, rfl⟩
 go_wp2_with fail
 refine (HRl.out _ _ HT0.out.st).mono ?_
 rintro e w1 ⟨rfl, ⟨hS, _⟩, hT⟩
 have H1 : Hid (oV w p q lo c DR D w1) := hid ⟨hS, HT0.out.st.2.1.touch hT (fun b hb hx => HT0.out.st.2.2.1 b hb (Or.inr hx)), HT0.out.st.2.2⟩
 clear hS hT
 go_wp2_with fail
 refine (HWh.out _ _ H1.out).mono ?_
 rintro e w2 ⟨rfl, hS, hT⟩
 have H2 := hid hS
 clear hS hT
 go_wp2_with fail
 go_ret
 exact ⟨rfl, H2.out⟩
set_option maxHeartbeats 2000000 in
theorem RB (h : lV w p q lo c D D m wr) (r i x sp sd : Int) (hp : D.parity = 0 ∨ D.parity = 1) :
   Calls Tryz.prog 16 #[.pointer (some ⟨p.a, 0, none⟩), .pointer (some ⟨q, 0, none⟩), .agg #[.int .u8 7, .int .i64 r, .int .i64 i, .int .i64 x, .int .i64 sp, .int .i64 sd]] wr (tY w p q lo c D.turn) := by
 obtain ⟨vt, ht⟩ := jW.turn c D
 have HTu := hid ht
 have HT0 := hid ((h.later (ah wr (.cells #[.int .u8 7, .int .i64 r, .int .i64 i, .int .i64 x, .int .i64 sp, .int .i64 sd] 33))).st)
 have hwp : IntKind.i64.wrap (1 - D.parity) = 1 - D.parity := IntWalk.i64_in _ (by omega)
 clear h ht hp
 go_enter Tryz.func16, Tryz.ntmps16
 go_wp2_with fail
 generalize wr.alloc (.cells #[.int .u8 7, .int .i64 r, .int .i64 i, .int .i64 x, .int .i64 sp, .int .i64 sd] 33) = w0 at *
 refine (HT0.out.does HTu.out).mono ?_
 rintro e w1 ⟨rfl, hS, hT⟩
 have H1 := hid hS
 clear hS hT
 obtain ⟨s1, s2, s3, s4⟩ := H1.out.2.1.Jy (1 - D.parity)
 have HS := hid s1
 have HQl := hid H1.out.2.1.lq
 clear s1
 have H2 : Hid (oV w p q lo c D.turn D.turn (w1.setCell ⟨q, 2, none⟩ (.int .i64 (1 - D.parity)))) := hid ⟨H1.out.1.touch ((Touch.refl (fun b => b = q) w1).setCell (p := ⟨q, 2, none⟩) (fun _ => rfl) _) (fun i hi e => by subst e; exact H1.out.2.2.1 _ HQl.out hi) (fun i e => by subst e; exact Nat.le_trans H1.out.2.2.2 HQl.out), HS.out, H1.out.2.2⟩
 go_wp2_with fail
 go_ret
 exact ⟨rfl, H2.out⟩
set_option maxHeartbeats 2000000 in
theorem RD (h : lV w p q lo c D D m wr) (r i x sp sd : Int) {v : Bool} {B : Nat} (HP : Does c D 28 [.int .i64 i] B D' (.bool v)) (HW : ∀ wz, bI wz lo q D → Calls Tryz.prog 77 #[.pointer (some ⟨q, 0, none⟩), .int .i64 i] wz (eF wz lo q D' (.bool v))) :
   Calls Tryz.prog 16 #[.pointer (some ⟨p.a, 0, none⟩), .pointer (some ⟨q, 0, none⟩), .agg #[.int .u8 8, .int .i64 r, .int .i64 i, .int .i64 x, .int .i64 sp, .int .i64 sd]] wr (tY w p q lo c D') := by
 have HBk := hid (aU.new wr #[.int .u8 8, .int .i64 r, .int .i64 i, .int .i64 x, .int .i64 sp, .int .i64 sd] 33)
 have HNo := hid h.box
 have HT0 := hid (h.later (ah wr (.cells #[.int .u8 8, .int .i64 r, .int .i64 i, .int .i64 x, .int .i64 sp, .int .i64 sd] 33)))
 have HPh := hid HP
 have HWh := hid (fun wz m' D1 (hz : lV w p q lo c D1 D m' wz) => hz.world (HW wz hz.2.1))
 have n1 : (v == v) = true := rE v
 clear h HP HW
 go_enter Tryz.func16, Tryz.ntmps16
 go_wp2_with fail
 generalize wr.alloc (.cells #[.int .u8 8, .int .i64 r, .int .i64 i, .int .i64 x, .int .i64 sp, .int .i64 sd] 33) = w0 at *
 generalize wr.heap.size = n0 at *
 have b0 : w0.cell? ⟨n0, 0, none⟩ = some (.int .u8 8) := HBk.out.cell 0 rfl
 have b1 : w0.cell? ⟨n0, 1, none⟩ = some (.int .i64 r) := HBk.out.cell 1 rfl
 have b2 : w0.cell? ⟨n0, 2, none⟩ = some (.int .i64 i) := HBk.out.cell 2 rfl
 have b3 : w0.cell? ⟨n0, 3, none⟩ = some (.int .i64 x) := HBk.out.cell 3 rfl
 have b4 : w0.cell? ⟨n0, 4, none⟩ = some (.int .i64 sp) := HBk.out.cell 4 rfl
 have b5 : w0.cell? ⟨n0, 5, none⟩ = some (.int .i64 sd) := HBk.out.cell 5 rfl
 have HTd := hid HT0.out.drew
 go_region_with (first | (go_at_call 28; refine (HTd.out.does HPh.out).mono ?_; rintro e w1 ⟨rfl, ⟨d, hd, hS⟩, hT⟩; have hk := HBk.out.drew.touch hT HNo.out; have b0 : w1.cell? ⟨n0, 0, none⟩ = some (.int .u8 8) := hk.cell 0 rfl; have b1 : w1.cell? ⟨n0, 1, none⟩ = some (.int .i64 r) := hk.cell 1 rfl; have b2 : w1.cell? ⟨n0, 2, none⟩ = some (.int .i64 i) := hk.cell 2 rfl; have b3 : w1.cell? ⟨n0, 3, none⟩ = some (.int .i64 x) := hk.cell 3 rfl; have H1 := hid hS; clear hS hd hT hk) | (go_at_call 77; refine (HWh.out _ _ _ H1.out).mono ?_; rintro e w2 ⟨rfl, hS⟩; have H2 := hid hS; clear hS))
 all_goals (go_wp2_with fail)
 all_goals go_ret
 all_goals exact ⟨rfl, H2.out.st⟩
set_option maxHeartbeats 2000000 in
theorem RF (h : lV w p q lo c D D m wr) (r i x sp sd : Int) {v : Bool} {B : Nat} (HP : Does c D 62 [.int .i64 r] B D' (.bool v)) (HW : ∀ wz, bI wz lo q D → Calls Tryz.prog 78 #[.pointer (some ⟨q, 0, none⟩), .int .i64 r] wz (eF wz lo q D' (.bool v))) :
   Calls Tryz.prog 16 #[.pointer (some ⟨p.a, 0, none⟩), .pointer (some ⟨q, 0, none⟩), .agg #[.int .u8 9, .int .i64 r, .int .i64 i, .int .i64 x, .int .i64 sp, .int .i64 sd]] wr (tY w p q lo c D') := by
 have HBk := hid (aU.new wr #[.int .u8 9, .int .i64 r, .int .i64 i, .int .i64 x, .int .i64 sp, .int .i64 sd] 33)
 have HNo := hid h.box
 have HT0 := hid (h.later (ah wr (.cells #[.int .u8 9, .int .i64 r, .int .i64 i, .int .i64 x, .int .i64 sp, .int .i64 sd] 33)))
 have HPh := hid HP
 have HWh := hid (fun wz m' D1 (hz : lV w p q lo c D1 D m' wz) => hz.world (HW wz hz.2.1))
 have n1 : (v == v) = true := rE v
 clear h HP HW
 go_enter Tryz.func16, Tryz.ntmps16
 go_wp2_with fail
 generalize wr.alloc (.cells #[.int .u8 9, .int .i64 r, .int .i64 i, .int .i64 x, .int .i64 sp, .int .i64 sd] 33) = w0 at *
 generalize wr.heap.size = n0 at *
 have b0 : w0.cell? ⟨n0, 0, none⟩ = some (.int .u8 9) := HBk.out.cell 0 rfl
 have b1 : w0.cell? ⟨n0, 1, none⟩ = some (.int .i64 r) := HBk.out.cell 1 rfl
 have b2 : w0.cell? ⟨n0, 2, none⟩ = some (.int .i64 i) := HBk.out.cell 2 rfl
 have b3 : w0.cell? ⟨n0, 3, none⟩ = some (.int .i64 x) := HBk.out.cell 3 rfl
 have b4 : w0.cell? ⟨n0, 4, none⟩ = some (.int .i64 sp) := HBk.out.cell 4 rfl
 have b5 : w0.cell? ⟨n0, 5, none⟩ = some (.int .i64 sd) := HBk.out.cell 5 rfl
 have HTd := hid HT0.out.drew
 go_region_with (first | (go_at_call 62; refine (HTd.out.does HPh.out).mono ?_; rintro e w1 ⟨rfl, ⟨d, hd, hS⟩, hT⟩; have hk := HBk.out.drew.touch hT HNo.out; have b0 : w1.cell? ⟨n0, 0, none⟩ = some (.int .u8 9) := hk.cell 0 rfl; have b1 : w1.cell? ⟨n0, 1, none⟩ = some (.int .i64 r) := hk.cell 1 rfl; have b2 : w1.cell? ⟨n0, 2, none⟩ = some (.int .i64 i) := hk.cell 2 rfl; have b3 : w1.cell? ⟨n0, 3, none⟩ = some (.int .i64 x) := hk.cell 3 rfl; have H1 := hid hS; clear hS hd hT hk) | (go_at_call 78; refine (HWh.out _ _ _ H1.out).mono ?_; rintro e w2 ⟨rfl, hS⟩; have H2 := hid hS; clear hS))
 all_goals (go_wp2_with fail)
 all_goals go_ret
 all_goals exact ⟨rfl, H2.out.st⟩
set_option maxHeartbeats 2000000 in
theorem PZ (h : lV w p q lo c D D m wr) (kd : Int) (h7 : kd ≠ 7) (h8 : kd ≠ 8) (h9 : kd ≠ 9) (r i x sp sd : Int) {v : Bool} {B : Nat} (HP : Does c D 64 [.int .i64 r] B D' (.bool v)) (HW : ∀ wz, bI wz lo q D → Calls Tryz.prog 79 #[.pointer (some ⟨q, 0, none⟩), .int .i64 r] wz (eF wz lo q D' (.bool v))) :
   Calls Tryz.prog 16 #[.pointer (some ⟨p.a, 0, none⟩), .pointer (some ⟨q, 0, none⟩), .agg #[.int .u8 kd, .int .i64 r, .int .i64 i, .int .i64 x, .int .i64 sp, .int .i64 sd]] wr (tY w p q lo c D') := by
 have HBk := hid (aU.new wr #[.int .u8 kd, .int .i64 r, .int .i64 i, .int .i64 x, .int .i64 sp, .int .i64 sd] 33)
 have HNo := hid h.box
 have HT0 := hid (h.later (ah wr (.cells #[.int .u8 kd, .int .i64 r, .int .i64 i, .int .i64 x, .int .i64 sp, .int .i64 sd] 33)))
 have HPh := hid HP
 have HWh := hid (fun wz m' D1 (hz : lV w p q lo c D1 D m' wz) => hz.world (HW wz hz.2.1))
 have n1 : (v == v) = true := rE v
 have k7 : (kd == 7) = false := bD h7
 have k8 : (kd == 8) = false := bD h8
 have k9 : (kd == 9) = false := bD h9
 clear h7 h8 h9
 clear h HP HW
 go_enter Tryz.func16, Tryz.ntmps16
 go_wp2_with fail
 generalize wr.alloc (.cells #[.int .u8 kd, .int .i64 r, .int .i64 i, .int .i64 x, .int .i64 sp, .int .i64 sd] 33) = w0 at *
 generalize wr.heap.size = n0 at *
 have b0 : w0.cell? ⟨n0, 0, none⟩ = some (.int .u8 kd) := HBk.out.cell 0 rfl
 have b1 : w0.cell? ⟨n0, 1, none⟩ = some (.int .i64 r) := HBk.out.cell 1 rfl
 have b2 : w0.cell? ⟨n0, 2, none⟩ = some (.int .i64 i) := HBk.out.cell 2 rfl
 have b3 : w0.cell? ⟨n0, 3, none⟩ = some (.int .i64 x) := HBk.out.cell 3 rfl
 have b4 : w0.cell? ⟨n0, 4, none⟩ = some (.int .i64 sp) := HBk.out.cell 4 rfl
 have b5 : w0.cell? ⟨n0, 5, none⟩ = some (.int .i64 sd) := HBk.out.cell 5 rfl
 have HTd := hid HT0.out.drew
 go_region_with (first | (go_at_call 64; refine (HTd.out.does HPh.out).mono ?_; rintro e w1 ⟨rfl, ⟨d, hd, hS⟩, hT⟩; have hk := HBk.out.drew.touch hT HNo.out; have b0 : w1.cell? ⟨n0, 0, none⟩ = some (.int .u8 kd) := hk.cell 0 rfl; have b1 : w1.cell? ⟨n0, 1, none⟩ = some (.int .i64 r) := hk.cell 1 rfl; have b2 : w1.cell? ⟨n0, 2, none⟩ = some (.int .i64 i) := hk.cell 2 rfl; have b3 : w1.cell? ⟨n0, 3, none⟩ = some (.int .i64 x) := hk.cell 3 rfl; have H1 := hid hS; clear hS hd hT hk) | (go_at_call 79; refine (HWh.out _ _ _ H1.out).mono ?_; rintro e w2 ⟨rfl, hS⟩; have H2 := hid hS; clear hS))
 all_goals (go_wp2_with fail)
 all_goals go_ret
 all_goals exact ⟨rfl, H2.out.st⟩
end
section
variable {w wr w' : World} {p : Pl} {q lo m k n : Nat} {c : Cf} {D D2 D' : Wd} {t u : Th} {r i x y sp sd : Int}
set_option maxHeartbeats 2000000 in
theorem Rw (h : lV w p q lo c D D m wr) (r i x sp sd : Int) {v : Bool} {B : Nat} (hB : B ≤ 96) (HP : Does c D 45 [.int .i64 r] B D' (.bool v)) (HW : ∀ wz, bI wz lo q D → Calls Tryz.prog 71 #[.pointer (some ⟨q, 0, none⟩), .int .i64 r] wz (eF wz lo q D' (.bool v))) :
   Calls Tryz.prog 15 #[.pointer (some ⟨p.a, 0, none⟩), .pointer (some ⟨q, 0, none⟩), .agg #[.int .u8 2, .int .i64 r, .int .i64 i, .int .i64 x, .int .i64 sp, .int .i64 sd]] wr (tY w p q lo c D') := by
 have HBk := hid (aU.new wr #[.int .u8 2, .int .i64 r, .int .i64 i, .int .i64 x, .int .i64 sp, .int .i64 sd] 33)
 have HNo := hid h.box
 have HT0 := hid (h.later (ah wr (.cells #[.int .u8 2, .int .i64 r, .int .i64 i, .int .i64 x, .int .i64 sp, .int .i64 sd] 33)))
 have HPh := hid HP
 have HWh := hid (fun wz m' D1 (hz : lV w p q lo c D1 D m' wz) => hz.world (HW wz hz.2.1))
 have HMt : Hid (∀ d : Nat, d ≤ B → IntKind.u64.wrap (iO (m + d) - iO m) = (d : Int) ∧ (d : Int) ≤ 96) := hid (fun d hd => ⟨qb m d (by omega), by omega⟩)
 have n1 : (v == v) = true := rE v
 clear h HP HW hB
 go_enter Tryz.func15, Tryz.ntmps15
 go_wp2_with fail
 generalize wr.alloc (.cells #[.int .u8 2, .int .i64 r, .int .i64 i, .int .i64 x, .int .i64 sp, .int .i64 sd] 33) = w0 at *
 generalize wr.heap.size = n0 at *
 have b0 : w0.cell? ⟨n0, 0, none⟩ = some (.int .u8 2) := HBk.out.cell 0 rfl
 have b1 : w0.cell? ⟨n0, 1, none⟩ = some (.int .i64 r) := HBk.out.cell 1 rfl
 have b2 : w0.cell? ⟨n0, 2, none⟩ = some (.int .i64 i) := HBk.out.cell 2 rfl
 have b3 : w0.cell? ⟨n0, 3, none⟩ = some (.int .i64 x) := HBk.out.cell 3 rfl
 have b4 : w0.cell? ⟨n0, 4, none⟩ = some (.int .i64 sp) := HBk.out.cell 4 rfl
 have b5 : w0.cell? ⟨n0, 5, none⟩ = some (.int .i64 sd) := HBk.out.cell 5 rfl
 refine (HT0.out.jl).mono ?_
 rintro e wm ⟨rfl, rfl⟩
 go_wp2_with fail
 have HTd := hid HT0.out.drew
 go_region_with (first | (go_at_call 45; refine (HTd.out.does HPh.out).mono ?_; rintro e w1 ⟨rfl, ⟨d, hd, hS⟩, hT⟩; have hk := HBk.out.drew.touch hT HNo.out; have b0 : w1.cell? ⟨n0, 0, none⟩ = some (.int .u8 2) := hk.cell 0 rfl; have b1 : w1.cell? ⟨n0, 1, none⟩ = some (.int .i64 r) := hk.cell 1 rfl; have b2 : w1.cell? ⟨n0, 2, none⟩ = some (.int .i64 i) := hk.cell 2 rfl; have b3 : w1.cell? ⟨n0, 3, none⟩ = some (.int .i64 x) := hk.cell 3 rfl; have hmt := (HMt.out d hd).1; have hdl := (HMt.out d hd).2; have H1 := hid hS; clear hS hd hT hk) | (go_at_call 71; refine (HWh.out _ _ _ H1.out).mono ?_; rintro e w2 ⟨rfl, hS⟩; have H2 := hid hS; clear hS) | (go_at_call 21; refine (H2.out.jl).mono ?_; rintro e w3 ⟨rfl, rfl⟩))
 all_goals (go_wp2_with fail)
 all_goals go_ret
 all_goals exact ⟨rfl, H2.out.st⟩
end
section
variable {w wr w' : World} {p : Pl} {q lo m k n : Nat} {c : Cf} {D D2 D' : Wd} {t u : Th} {r i x y sp sd : Int}
set_option maxHeartbeats 2000000 in
theorem Rx (h : lV w p q lo c D D m wr) (r i x sp sd : Int) {v : Bool} {B : Nat} (hB : B ≤ 64) (HP : Does c D 44 [.int .i64 r] B D' (.bool v)) (HW : ∀ wz, bI wz lo q D → Calls Tryz.prog 72 #[.pointer (some ⟨q, 0, none⟩), .int .i64 r] wz (eF wz lo q D' (.bool v))) :
   Calls Tryz.prog 15 #[.pointer (some ⟨p.a, 0, none⟩), .pointer (some ⟨q, 0, none⟩), .agg #[.int .u8 3, .int .i64 r, .int .i64 i, .int .i64 x, .int .i64 sp, .int .i64 sd]] wr (tY w p q lo c D') := by
 have HBk := hid (aU.new wr #[.int .u8 3, .int .i64 r, .int .i64 i, .int .i64 x, .int .i64 sp, .int .i64 sd] 33)
 have HNo := hid h.box
 have HT0 := hid (h.later (ah wr (.cells #[.int .u8 3, .int .i64 r, .int .i64 i, .int .i64 x, .int .i64 sp, .int .i64 sd] 33)))
 have HPh := hid HP
 have HWh := hid (fun wz m' D1 (hz : lV w p q lo c D1 D m' wz) => hz.world (HW wz hz.2.1))
 have HMt : Hid (∀ d : Nat, d ≤ B → IntKind.u64.wrap (iO (m + d) - iO m) = (d : Int) ∧ (d : Int) ≤ 64) := hid (fun d hd => ⟨qb m d (by omega), by omega⟩)
 have n1 : (v == v) = true := rE v
 clear h HP HW hB
 go_enter Tryz.func15, Tryz.ntmps15
 go_wp2_with fail
 generalize wr.alloc (.cells #[.int .u8 3, .int .i64 r, .int .i64 i, .int .i64 x, .int .i64 sp, .int .i64 sd] 33) = w0 at *
 generalize wr.heap.size = n0 at *
 have b0 : w0.cell? ⟨n0, 0, none⟩ = some (.int .u8 3) := HBk.out.cell 0 rfl
 have b1 : w0.cell? ⟨n0, 1, none⟩ = some (.int .i64 r) := HBk.out.cell 1 rfl
 have b2 : w0.cell? ⟨n0, 2, none⟩ = some (.int .i64 i) := HBk.out.cell 2 rfl
 have b3 : w0.cell? ⟨n0, 3, none⟩ = some (.int .i64 x) := HBk.out.cell 3 rfl
 have b4 : w0.cell? ⟨n0, 4, none⟩ = some (.int .i64 sp) := HBk.out.cell 4 rfl
 have b5 : w0.cell? ⟨n0, 5, none⟩ = some (.int .i64 sd) := HBk.out.cell 5 rfl
 refine (HT0.out.jl).mono ?_
 rintro e wm ⟨rfl, rfl⟩
 go_wp2_with fail
 have HTd := hid HT0.out.drew
 go_region_with (first | (go_at_call 44; refine (HTd.out.does HPh.out).mono ?_; rintro e w1 ⟨rfl, ⟨d, hd, hS⟩, hT⟩; have hk := HBk.out.drew.touch hT HNo.out; have b0 : w1.cell? ⟨n0, 0, none⟩ = some (.int .u8 3) := hk.cell 0 rfl; have b1 : w1.cell? ⟨n0, 1, none⟩ = some (.int .i64 r) := hk.cell 1 rfl; have b2 : w1.cell? ⟨n0, 2, none⟩ = some (.int .i64 i) := hk.cell 2 rfl; have b3 : w1.cell? ⟨n0, 3, none⟩ = some (.int .i64 x) := hk.cell 3 rfl; have hmt := (HMt.out d hd).1; have hdl := (HMt.out d hd).2; have H1 := hid hS; clear hS hd hT hk) | (go_at_call 72; refine (HWh.out _ _ _ H1.out).mono ?_; rintro e w2 ⟨rfl, hS⟩; have H2 := hid hS; clear hS) | (go_at_call 21; refine (H2.out.jl).mono ?_; rintro e w3 ⟨rfl, rfl⟩))
 all_goals (go_wp2_with fail)
 all_goals go_ret
 all_goals exact ⟨rfl, H2.out.st⟩
end
end Go.Proofs.YtbhhfnlkpieebaaGreat.Pk
