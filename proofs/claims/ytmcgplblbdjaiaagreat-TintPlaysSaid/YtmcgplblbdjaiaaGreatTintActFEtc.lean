/-
  Texts laid together: TintActF, TintCntF, TintAllF, TintOneF, TintStepF.
-/
import Derived.Test.YtmcgplblbdjaiaaGreatTintLikeFEtc
import Derived.RegionTactic
import Derived.Deep.RegionWith
import Derived.Deep.RegionHeld3
/-
  Layer 13: an act, both ways: told alike, with so many accesses (over the bundles).
-/
namespace Go.Proofs.YtmcgplblbdjaiaaGreat.Pk
open Go.RowKit
set_option linter.unusedVariables false
set_option linter.unusedSimpArgs false
set_option maxRecDepth 100000

/-- .. with so many accesses. -/
def RSm (w : World) (p : Pl) (c : Cf) (D : Wd) (m : Nat) (wr : World) : Prop :=
  ∃ zs, G wr p c ⟨zs, m⟩ ∧ RepW c zs D ∧ (∀ k, inG p k → w.heap.size ≤ k) ∧ Below w.heap.size w wr
def TSm (w : World) (p : Pl) (q lo : Nat) (c : Cf) (D D2 : Wd) (m : Nat) (wr : World) : Prop := RSm w p c D m wr ∧ WRep wr lo q D2 ∧ (∀ i, lo ≤ i → ¬ ofG p i) ∧ w.heap.size ≤ lo
section
variable {w wr w' : World} {p : Pl} {q lo m : Nat} {c : Cf} {D D2 D' : Wd}
theorem TSm.st (h : TSm w p q lo c D D2 m wr) : TSt w p q lo c D D2 wr := by
  obtain ⟨⟨zs, h1, h2, h3, h4⟩, h5⟩ := h
  exact ⟨⟨zs, m, h1, h2, h3, h4⟩, h5⟩
theorem TSt.sm (h : TSt w p q lo c D D2 wr) : ∃ m, TSm w p q lo c D D2 m wr := by
  obtain ⟨⟨zs, m, h1, h2, h3, h4⟩, h5⟩ := h
  exact ⟨m, ⟨zs, h1, h2, h3, h4⟩, h5⟩
theorem TSm.later (h : TSm w p q lo c D D2 m wr) (hb : Below wr.heap.size wr w') : TSm w p q lo c D D2 m w' := by
  obtain ⟨⟨zs, h1, h2, h3, h4⟩, h5, h6⟩ := h
  exact ⟨⟨zs, h1.later hb, h2, h3, below_step h4 hb⟩, h5.later hb, h6⟩
theorem TSm.drew (h : TSm w p q lo c D D2 m wr) : TSm w p q lo c D D2 m wr.drew := h.later ⟨rfl, rfl, rfl, Nat.le_refl _, fun _ _ => rfl⟩
theorem TSm.does {f : FuncId} {args : List Value} {B : Nat} {v : Value} (h : TSm w p q lo c D D2 m wr) (ha : Does c D f args B D' v) :
    Calls Tryz.prog f (List.toArray (.pointer (some ⟨p.a, 0, none⟩) :: args)) wr fun e w' => e = .returned v ∧ (∃ d, d ≤ B ∧ TSm w p q lo c D' D2 (m + d) w') ∧ Touch (inG p) wr w' := by
  obtain ⟨⟨zs, hG, hR, hp, hB⟩, h5, h6, h7⟩ := h
  obtain ⟨zs', ⟨d, hd, H⟩, hR'⟩ := ha zs hG.wz hR
  refine (H p m wr hG).mono ?_
  rintro e w' ⟨rfl, hG', hT⟩
  exact ⟨rfl, ⟨d, hd, ⟨zs', hG', hR', hp, hB.trans (hT.below hp hB.size)⟩, h5.touch hT (fun b hb hx => h6 b hb (Or.inr hx)), h6, h7⟩, hT⟩
theorem TSm.world {f : FuncId} {args : Array Value} {v : Value} (h : TSm w p q lo c D D2 m wr) (ha : Calls Tryz.prog f args wr (WEnd wr lo q D' v)) :
    Calls Tryz.prog f args wr fun e w' => e = .returned v ∧ TSm w p q lo c D D' m w' := by
  obtain ⟨⟨zs, hG, hR, hp, hB⟩, h5, h6, h7⟩ := h
  refine ha.mono ?_
  rintro e w' ⟨rfl, h2, h3⟩
  exact ⟨rfl, ⟨zs, hG.touch h3 (fun i hi hx => h6 i hx hi), hR, hp, hB.trans (h3.below (fun i hi => Nat.le_trans h7 hi) hB.size)⟩, h2, h6, h7⟩
theorem TSm.meter (h : TSm w p q lo c D D2 m wr) : Calls Tryz.prog 9 #[.pointer (some ⟨p.a, 0, none⟩)] wr fun e w' => e = .returned (.int .u64 (u64m m)) ∧ wr = w' := by
  obtain ⟨⟨zs, hG, _⟩, _⟩ := h
  exact gmeter_any p c ⟨zs, m⟩ wr hG
theorem TSm.box (h : TSm w p q lo c D D2 m wr) : ¬ inG p wr.heap.size := fun hx => by
  obtain ⟨⟨zs, hG, _⟩, _⟩ := h
  have := hG.ofG_lt (Or.inr hx)
  omega
theorem WRep.dyeW (h : WRep wr lo q D) (r : Int) : Calls Tryz.prog 40 #[.pointer (some ⟨q, 0, none⟩), .int .i64 r] wr (WEnd wr lo q (D.dye r) (.bool (D.find r).isSome)) := by
  obtain ⟨lab, a, rfl, k⟩ := h
  exact w_dye k r
theorem WRep.paintW (h : WRep wr lo q D) (r : Int) : Calls Tryz.prog 43 #[.pointer (some ⟨q, 0, none⟩), .int .i64 r] wr (WEnd wr lo q (D.paint r) (.bool (D.find r).isSome)) := by
  obtain ⟨lab, a, rfl, k⟩ := h
  exact w_paint k r
theorem WRep.killW (h : WRep wr lo q D) (r : Int) : Calls Tryz.prog 45 #[.pointer (some ⟨q, 0, none⟩), .int .i64 r] wr (WEnd wr lo q (D.kill r) (.bool ((D.find r).isSome && !D.dead r))) := by
  obtain ⟨lab, a, rfl, k⟩ := h
  exact w_kill k r
theorem WRep.doneW (h : WRep wr lo q D) (r : Int) : Calls Tryz.prog 48 #[.pointer (some ⟨q, 0, none⟩), .int .i64 r] wr (WEnd wr lo q (D.done r) (.bool (D.find r).isSome)) := by
  obtain ⟨lab, a, rfl, k⟩ := h
  exact w_done k r
theorem WRep.touchW (h : WRep wr lo q D) (r : Int) (hb : D.ring.length ≤ 8000) : Calls Tryz.prog 44 #[.pointer (some ⟨q, 0, none⟩), .int .i64 r] wr (WEnd wr lo q (D.touch r) (.bool (D.toucht r))) := by
  obtain ⟨lab, a, rfl, k⟩ := h
  exact w_touch k r hb
theorem WRep.deepenW (h : WRep wr lo q D) (r : Int) (hb : 0 ≤ D.shd r ∧ D.shd r ≤ 1000000) : Calls Tryz.prog 46 #[.pointer (some ⟨q, 0, none⟩), .int .i64 r] wr (WEnd wr lo q (D.deepen r) (.bool (D.find r).isSome)) := by
  obtain ⟨lab, a, rfl, k⟩ := h
  exact w_deepen k r (by omega) (by omega)
theorem WRep.lightenW (h : WRep wr lo q D) (r : Int) (hb : 0 ≤ D.shd r ∧ D.shd r ≤ 1000000) : Calls Tryz.prog 47 #[.pointer (some ⟨q, 0, none⟩), .int .i64 r] wr (WEnd wr lo q (D.lighten r) (.bool (D.lighter r))) := by
  obtain ⟨lab, a, rfl, k⟩ := h
  exact w_lighten k r (by omega) (by omega)
theorem WRep.beginW (h : WRep wr lo q D) (r : Int) : Calls Tryz.prog 41 #[.pointer (some ⟨q, 0, none⟩), .int .i64 r] wr (WEnd wr lo q (D.beginT r) (.bool (phB r))) := by
  obtain ⟨lab, a, rfl, k⟩ := h
  exact w_begin k r
/-- The end of an act. -/
def ActEnd (w : World) (p : Pl) (q lo : Nat) (c : Cf) (D' : Wd) (m : Nat) (e : Ending) (w' : World) : Prop := e = .returned (.bool true) ∧ ∃ d, d ≤ 32 ∧ TSm w p q lo c D' D' (m + d) w'
end
end Go.Proofs.YtmcgplblbdjaiaaGreat.Pk

/-
  Layer 13: Counted, both ways (over the bundles).
-/
namespace Go.Proofs.YtmcgplblbdjaiaaGreat.Pk
open Go.RowKit
set_option linter.unusedVariables false
set_option linter.unusedSimpArgs false
set_option maxRecDepth 100000
section
variable {w wr w' : World} {p : Pl} {q lo m : Nat} {c : Cf} {D D2 D' : Wd}
/-- The end of a call that writes the world's own box alone. -/
def WQ (w : World) (lo q : Nat) (D' : Wd) (v : Value) (e : Ending) (w' : World) : Prop := e = .returned v ∧ WRep w' lo q D' ∧ Touch (fun b => b = q) w w'
section
variable {w w' : World} {lo : Nat} {lab : Nat → Nat} {a : WA} {D : Wd}
theorem wq_move_no (h : WAt w lo lab a D) (c f : Int) (hn : mvB c f = false) :
    Calls Tryz.prog 42 #[.pointer (some ⟨a.q, 0, none⟩), .int .i64 c, .int .i64 f] w (WQ w lo a.q (D.moveT c f) (.bool (mvB c f))) := by
  have H := Lib.hid h
  have E := Lib.hid hn
  have hn' := of_decide_eq_false hn
  clear h hn
  by_cases h0 : c < 0
  · clear hn'
    go_enter Tryz.func42, Tryz.ntmps42
    go_wp2_with fail
    go_ret
    exact ⟨by rw [E.out]; rfl, by unfold Wd.moveT; rw [E.out]; exact ⟨lab, a, rfl, H.out⟩, Touch.refl _ _⟩
  · by_cases h1 : 4294967295 < c
    · clear hn'
      go_enter Tryz.func42, Tryz.ntmps42
      go_wp2_with fail
      go_ret
      exact ⟨by rw [E.out]; rfl, by unfold Wd.moveT; rw [E.out]; exact ⟨lab, a, rfl, H.out⟩, Touch.refl _ _⟩
    · by_cases h2 : f < 0
      · clear hn'
        go_enter Tryz.func42, Tryz.ntmps42
        go_wp2_with fail
        go_ret
        exact ⟨by rw [E.out]; rfl, by unfold Wd.moveT; rw [E.out]; exact ⟨lab, a, rfl, H.out⟩, Touch.refl _ _⟩
      · have h3 : 4294967295 < f := by omega
        clear hn'
        go_enter Tryz.func42, Tryz.ntmps42
        go_wp2_with fail
        go_ret
        exact ⟨by rw [E.out]; rfl, by unfold Wd.moveT; rw [E.out]; exact ⟨lab, a, rfl, H.out⟩, Touch.refl _ _⟩
theorem wq_move (h : WAt w lo lab a D) (c f : Int) :
    Calls Tryz.prog 42 #[.pointer (some ⟨a.q, 0, none⟩), .int .i64 c, .int .i64 f] w (WQ w lo a.q (D.moveT c f) (.bool (mvB c f))) := by
  cases hn : mvB c f with
  | false => have := wq_move_no h c f hn; rw [hn] at this; exact this
  | true =>
    have E := Lib.hid hn
    have hn' := of_decide_eq_true hn
    have h0 : ¬ c < 0 := by omega
    have h1 : ¬ 4294967295 < c := by omega
    have h2 : ¬ f < 0 := by omega
    have h3 : ¬ 4294967295 < f := by omega
    have H := Lib.hid h
    have g4 := h.c4
    have g5 := h.c5
    have z4 := h.wb.free 4
    have z5 := h.wb.free 5
    clear h hn hn'
    go_enter Tryz.func42, Tryz.ntmps42
    go_wp2_with fail
    go_ret
    have k2 := H.out.setNum (D' := { D with cursor := c }) (k := 4) (u := .int .i64 c) rfl rfl rfl rfl rfl rfl rfl
    have k3 := k2.setNum (D' := D.move c f) (k := 5) (u := .int .i64 f) rfl rfl rfl rfl rfl rfl rfl
    exact ⟨rfl, by unfold Wd.moveT; rw [E.out]; exact ⟨lab, a, rfl, k3⟩, ((Touch.refl (fun b => b = a.q) _).setCell (p := ⟨a.q, 4, none⟩) (fun _ => rfl) _).setCell (p := ⟨a.q, 5, none⟩) (fun _ => rfl) _⟩
end
set_option maxHeartbeats 2000000 in
theorem act11 (T : TintFns) (h : TSm w p q lo c D D m wr) (k r i x y : Int) (hr : In64 r) (hk : ∀ j : Int, 4 ≤ j → j ≤ 10 → k ≠ j) :
    Calls Tryz.prog 11 #[.pointer (some ⟨p.a, 0, none⟩), .pointer (some ⟨q, 0, none⟩), .agg #[.int .u8 k, .int .i64 r, .int .i64 i, .int .i64 x, .int .i64 y]] wr (ActEnd w p q lo c D m) := by
  have HP := Lib.hid (T.counted c D r i hr)
  have HBk := Lib.hid (Blk.new wr #[.int .u8 k, .int .i64 r, .int .i64 i, .int .i64 x, .int .i64 y] 33)
  have HNo := Lib.hid h.box
  have HT0 := Lib.hid (h.later (below_new wr (.cells #[.int .u8 k, .int .i64 r, .int .i64 i, .int .i64 x, .int .i64 y] 33)))
  have HW := Lib.hid (fun wz m' D1 (hz : TSm w p q lo c D1 D m' wz) => hz.2.1.counted r i)
  have n1 : (D.counted r i == D.counted r i) = true := by simp
  have q4 : (k == 4) = false := by rw [beq_eq_false_iff_ne]; exact hk 4 (by omega) (by omega)
  have q5 : (k == 5) = false := by rw [beq_eq_false_iff_ne]; exact hk 5 (by omega) (by omega)
  have q6 : (k == 6) = false := by rw [beq_eq_false_iff_ne]; exact hk 6 (by omega) (by omega)
  have q7 : (k == 7) = false := by rw [beq_eq_false_iff_ne]; exact hk 7 (by omega) (by omega)
  have q8 : (k == 8) = false := by rw [beq_eq_false_iff_ne]; exact hk 8 (by omega) (by omega)
  have q9 : (k == 9) = false := by rw [beq_eq_false_iff_ne]; exact hk 9 (by omega) (by omega)
  have q10 : (k == 10) = false := by rw [beq_eq_false_iff_ne]; exact hk 10 (by omega) (by omega)
  generalize D.counted r i = V at *
  clear h hk
  go_enter Tryz.func11, Tryz.ntmps11
  go_wp2_with fail
  generalize wr.alloc (.cells #[.int .u8 k, .int .i64 r, .int .i64 i, .int .i64 x, .int .i64 y] 33) = w0 at *
  generalize wr.heap.size = n0 at *
  have b1 : w0.cell? ⟨n0, 1, none⟩ = some (.int .i64 r) := HBk.out.cell 1 rfl
  have b2 : w0.cell? ⟨n0, 2, none⟩ = some (.int .i64 i) := HBk.out.cell 2 rfl
  have HTd := Lib.hid HT0.out.drew
  go_region_held3 (fun w' => w'.cell? ⟨n0, 1, none⟩ = some (.int .i64 r) ∧ w'.cell? ⟨n0, 2, none⟩ = some (.int .i64 i)) (first | exact ⟨b1, b2⟩ | exact ⟨d1, d2⟩ | exact ⟨e1, e2⟩)
    (first | (go_at_call 17; refine (HTd.out.does HP.out).mono ?_; rintro e w1 ⟨rfl, ⟨d, hd, hS⟩, hT⟩; have hk := HBk.out.drew.touch hT HNo.out; have d1 : w1.cell? ⟨n0, 1, none⟩ = some (.int .i64 r) := hk.cell 1 rfl; have d2 : w1.cell? ⟨n0, 2, none⟩ = some (.int .i64 i) := hk.cell 2 rfl; have HK := Lib.hid hk; have H1 := Lib.hid hS; have Hd := Lib.hid hd; clear hd hS hT hk) | (go_at_call 49; refine (HW.out _ _ _ H1.out).mono ?_; rintro e w2 ⟨rfl, hdr⟩; have H2 := Lib.hid (H1.out.later hdr.new); have hk := HK.out.drw hdr; have e1 : w2.cell? ⟨n0, 1, none⟩ = some (.int .i64 r) := hk.cell 1 rfl; have e2 : w2.cell? ⟨n0, 2, none⟩ = some (.int .i64 i) := hk.cell 2 rfl; clear hdr hk))
  go_wp2_with fail
  go_ret
  exact ⟨rfl, _, Hd.out, H2.out⟩
def AllEnd (w : World) (p : Pl) (q lo : Nat) (c : Cf) (D' : Wd) (e : Ending) (w' : World) : Prop := e = .returned (.bool true) ∧ TSt w p q lo c D' D' w'
set_option maxHeartbeats 2000000 in
theorem act3 (T : TintFns) (h : TSt w p q lo c D D wr) (r i x y : Int) :
    Calls Tryz.prog 10 #[.pointer (some ⟨p.a, 0, none⟩), .pointer (some ⟨q, 0, none⟩), .agg #[.int .u8 3, .int .i64 r, .int .i64 i, .int .i64 x, .int .i64 y]] wr (AllEnd w p q lo c (D.moveT r i)) := by
  have HP := Lib.hid (T.move c D r i)
  have HBk := Lib.hid (Blk.new wr #[.int .u8 3, .int .i64 r, .int .i64 i, .int .i64 x, .int .i64 y] 33)
  have HNo : Hid (¬ inG p wr.heap.size) := Lib.hid (fun hx => by
    obtain ⟨m, k⟩ := h.sm
    exact k.box hx)
  have HNq : Hid (¬ wr.heap.size = q) := Lib.hid (by
    obtain ⟨_, ⟨lab, a, rfl, k⟩, _⟩ := h
    have := k.wb.lt
    omega)
  have HT0 := Lib.hid (h.later (below_new wr (.cells #[.int .u8 3, .int .i64 r, .int .i64 i, .int .i64 x, .int .i64 y] 33)))
  have HLq := Lib.hid h.2.1.lq
  have HW : Hid (∀ wz D1, TSt w p q lo c D1 D wz → Calls Tryz.prog 42 #[.pointer (some ⟨q, 0, none⟩), .int .i64 r, .int .i64 i] wz fun e w' => e = .returned (.bool (mvB r i)) ∧ TSt w p q lo c D1 (D.moveT r i) w' ∧ Touch (fun b => b = q) wz w') := Lib.hid (fun wz D1 hz => by
    obtain ⟨h1, ⟨lab, a, rfl, k⟩, h6, h7⟩ := hz
    refine (wq_move k r i).mono ?_
    rintro e w' ⟨rfl, k2, k3⟩
    exact ⟨rfl, ⟨h1.touch k3 (fun i hi hx => h6 i (by rw [hx]; exact HLq.out) hi) (fun i hi => by rw [hi]; exact Nat.le_trans h7 HLq.out), k2, h6, h7⟩, k3⟩)
  have n1 : (mvB r i == mvB r i) = true := by simp
  generalize mvB r i = V at *
  clear h
  go_enter Tryz.func10, Tryz.ntmps10
  go_wp2_with fail
  generalize wr.alloc (.cells #[.int .u8 3, .int .i64 r, .int .i64 i, .int .i64 x, .int .i64 y] 33) = w0 at *
  generalize wr.heap.size = n0 at *
  have b1 : w0.cell? ⟨n0, 1, none⟩ = some (.int .i64 r) := HBk.out.cell 1 rfl
  have b2 : w0.cell? ⟨n0, 2, none⟩ = some (.int .i64 i) := HBk.out.cell 2 rfl
  have HTd : Hid (TSt w p q lo c D D w0.drew) := Lib.hid (HT0.out.later ⟨rfl, rfl, rfl, Nat.le_refl _, fun _ _ => rfl⟩)
  go_region_held3 (fun w' => w'.cell? ⟨n0, 1, none⟩ = some (.int .i64 r) ∧ w'.cell? ⟨n0, 2, none⟩ = some (.int .i64 i)) (first | exact ⟨b1, b2⟩ | exact ⟨d1, d2⟩ | exact ⟨e1, e2⟩)
    (first | (go_at_call 28; refine (HTd.out.does HP.out).mono ?_; rintro e w1 ⟨rfl, hS, hT⟩; have hk := HBk.out.drew.touch hT HNo.out; have d1 : w1.cell? ⟨n0, 1, none⟩ = some (.int .i64 r) := hk.cell 1 rfl; have d2 : w1.cell? ⟨n0, 2, none⟩ = some (.int .i64 i) := hk.cell 2 rfl; have HK := Lib.hid hk; have H1 := Lib.hid hS; clear hS hT hk) | (go_at_call 42; refine (HW.out _ _ H1.out).mono ?_; rintro e w2 ⟨rfl, hS, hT⟩; have H2 := Lib.hid hS; have hk := HK.out.touch hT HNq.out; have e1 : w2.cell? ⟨n0, 1, none⟩ = some (.int .i64 r) := hk.cell 1 rfl; have e2 : w2.cell? ⟨n0, 2, none⟩ = some (.int .i64 i) := hk.cell 2 rfl; clear hS hT hk))
  go_wp2_with fail
  go_ret
  exact ⟨rfl, H2.out⟩
end
end Go.Proofs.YtmcgplblbdjaiaaGreat.Pk

/-
  Layer 13: acts on the whole, both ways, and Counted (over the bundles).
-/
namespace Go.Proofs.YtmcgplblbdjaiaaGreat.Pk
open Go.RowKit
set_option linter.unusedVariables false
set_option linter.unusedSimpArgs false
set_option maxRecDepth 100000
section
variable {w wr w' : World} {p : Pl} {q lo m : Nat} {c : Cf} {D D2 D' : Wd}
theorem TSt.box (h : TSt w p q lo c D D2 wr) : ¬ inG p wr.heap.size := fun hx => by
  obtain ⟨m, h⟩ := h.sm
  exact h.box hx
theorem TSt.drew (h : TSt w p q lo c D D2 wr) : TSt w p q lo c D D2 wr.drew := h.later ⟨rfl, rfl, rfl, Nat.le_refl _, fun _ _ => rfl⟩
theorem TSt.make (O : ObjFns) (h : TSt w p q lo c D D2 wr) (x y : Int) : Calls Tryz.prog 15 #[.pointer (some ⟨p.a, 0, none⟩), .int .i64 x, .int .i64 y] wr fun e w' => e = .returned (.tuple #[.int .i64 (D.mkR x y), .int .i64 (D.mkE x y)]) ∧ TSt w p q lo c (D.mkD x y) D2 w' ∧ Touch (inG p) wr w' :=
  (make_does O c D x y h.1).mono fun e w' ⟨h1, h2, h3⟩ => ⟨h1, ⟨h2, h.2.1.touch h3 (fun b hb hx => h.2.2.1 b hb (Or.inr hx)), h.2.2⟩, h3⟩
set_option maxHeartbeats 2000000 in
theorem act2 (T : TintFns) (h : TSt w p q lo c D D wr) (r i x y : Int) :
    Calls Tryz.prog 10 #[.pointer (some ⟨p.a, 0, none⟩), .pointer (some ⟨q, 0, none⟩), .agg #[.int .u8 2, .int .i64 r, .int .i64 i, .int .i64 x, .int .i64 y]] wr (AllEnd w p q lo c (D.beginT i)) := by
  have HP := Lib.hid (T.begin_ c D i)
  have HBk := Lib.hid (Blk.new wr #[.int .u8 2, .int .i64 r, .int .i64 i, .int .i64 x, .int .i64 y] 33)
  have HNo := Lib.hid h.box
  have HT0 := Lib.hid (h.later (below_new wr (.cells #[.int .u8 2, .int .i64 r, .int .i64 i, .int .i64 x, .int .i64 y] 33)))
  have HW := Lib.hid (fun wz D1 (hz : TSt w p q lo c D1 D wz) => hz.world (hz.2.1.beginW i))
  have n1 : ((phB i) == (phB i)) = true := by simp
  clear h
  go_enter Tryz.func10, Tryz.ntmps10
  go_wp2_with fail
  generalize wr.alloc (.cells #[.int .u8 2, .int .i64 r, .int .i64 i, .int .i64 x, .int .i64 y] 33) = w0 at *
  generalize wr.heap.size = n0 at *
  have b0 : w0.cell? ⟨n0, 0, none⟩ = some (.int .u8 2) := HBk.out.cell 0 rfl
  have b1 : w0.cell? ⟨n0, 1, none⟩ = some (.int .i64 r) := HBk.out.cell 1 rfl
  have b2 : w0.cell? ⟨n0, 2, none⟩ = some (.int .i64 i) := HBk.out.cell 2 rfl
  have HTd := Lib.hid HT0.out.drew
  go_region_with (first | (go_at_call 14; refine (HTd.out.does HP.out).mono ?_; rintro e w1 ⟨rfl, hS, hT⟩; have hk := HBk.out.drew.touch hT HNo.out; have b0 : w1.cell? ⟨n0, 0, none⟩ = some (.int .u8 2) := hk.cell 0 rfl; have b1 : w1.cell? ⟨n0, 1, none⟩ = some (.int .i64 r) := hk.cell 1 rfl; have b2 : w1.cell? ⟨n0, 2, none⟩ = some (.int .i64 i) := hk.cell 2 rfl; have H1 := Lib.hid hS; clear hS hT hk) | (go_at_call 41; refine (HW.out _ _ H1.out).mono ?_; rintro e w2 ⟨rfl, hS, _⟩; have H2 := Lib.hid hS; clear hS))
  all_goals (go_wp2_with fail)
  all_goals go_ret
  all_goals exact ⟨rfl, H2.out⟩
theorem WRep.setParity (h : WRep wr lo q D) (x : Int) : WRep (wr.setCell ⟨q, 2, none⟩ (.int .i64 x)) lo q { D with parity := x } ∧ wr.cell? ⟨q, 2, none⟩ = some (.int .i64 D.parity) ∧ wr.frozen? ⟨q, 2, none⟩ = false ∧ q < wr.heap.size := by
  obtain ⟨lab, a, rfl, k⟩ := h
  exact ⟨⟨lab, a, rfl, k.setNum (D' := { D with parity := x }) (k := 2) (u := .int .i64 x) rfl rfl rfl rfl rfl rfl rfl⟩, k.c2, k.wb.free 2, k.wb.lt⟩
set_option maxHeartbeats 2000000 in
theorem act1 (T : TintFns) (h : TSt w p q lo c D D wr) (r i x y : Int) (hp : D.parity = 0 ∨ D.parity = 1) :
    Calls Tryz.prog 10 #[.pointer (some ⟨p.a, 0, none⟩), .pointer (some ⟨q, 0, none⟩), .agg #[.int .u8 1, .int .i64 r, .int .i64 i, .int .i64 x, .int .i64 y]] wr (AllEnd w p q lo c D.turn) := by
  obtain ⟨vt, ht⟩ := T.turn c D
  have HTu := Lib.hid ht
  have HPa := Lib.hid (T.parity c D.turn)
  have HT0 := Lib.hid (h.later (below_new wr (.cells #[.int .u8 1, .int .i64 r, .int .i64 i, .int .i64 x, .int .i64 y] 33)))
  have hwp : IntKind.i64.wrap (1 - D.parity) = 1 - D.parity := IntWalk.i64_in _ (by omega)
  have n1 : (D.turn.parity == 1 - D.parity) = true := by simp [Wd.turn]
  clear h ht hp
  go_enter Tryz.func10, Tryz.ntmps10
  go_wp2_with fail
  generalize wr.alloc (.cells #[.int .u8 1, .int .i64 r, .int .i64 i, .int .i64 x, .int .i64 y] 33) = w0 at *
  refine (HT0.out.does HTu.out).mono ?_
  rintro e w1 ⟨rfl, hS, hT⟩
  have H1 := Lib.hid hS
  clear hS hT
  obtain ⟨s1, s2, s3, s4⟩ := H1.out.2.1.setParity (1 - D.parity)
  have HS := Lib.hid s1
  have HQl := Lib.hid H1.out.2.1.lq
  clear s1
  have H2 : Hid (TSt w p q lo c D.turn D.turn (w1.setCell ⟨q, 2, none⟩ (.int .i64 (1 - D.parity)))) := Lib.hid ⟨H1.out.1.touch ((Touch.refl (fun b => b = q) w1).setCell (p := ⟨q, 2, none⟩) (fun _ => rfl) _) (fun i hi e => by subst e; exact H1.out.2.2.1 _ HQl.out hi) (fun i e => by subst e; exact Nat.le_trans H1.out.2.2.2 HQl.out), HS.out, H1.out.2.2⟩
  go_wp2_with fail
  generalize hw3 : w1.setCell ⟨q, 2, none⟩ (.int .i64 (1 - D.parity)) = w3 at *
  have d2 : w3.cell? ⟨q, 2, none⟩ = some (.int .i64 (1 - D.parity)) := (H2.out.2.1.setParity 0).2.1
  have z2 := (H2.out.2.1.setParity 0).2.2.2
  have HX : Hid (∀ b, lo ≤ b → ¬ inG p b) := Lib.hid (fun b hb hx => H1.out.2.2.1 b hb (Or.inr hx))
  clear hw3 s2 s3
  have HTd := Lib.hid H2.out.drew
  go_region_with (first | (go_at_call 19; refine (HTd.out.does HPa.out).mono ?_; rintro e w4 ⟨rfl, hS, hT⟩; have H4 := Lib.hid hS; have d4 : w4.cell? ⟨q, 2, none⟩ = some (.int .i64 (1 - D.parity)) := (hT.undrew.cell (p := ⟨q, 2, none⟩) z2 (HX.out q HQl.out)).trans d2; clear hS hT))
  all_goals (go_wp2_with fail)
  all_goals go_ret
  all_goals exact ⟨rfl, H4.out⟩
set_option maxHeartbeats 2000000 in
theorem act0 (O : ObjFns) (T : TintFns) (h : TSt w p q lo c D D wr) (r i x y : Int) (hc : D.clean.length ≤ 8000) (hts : D.ts.length ≤ 8000) (hb : D.mkB < 1000000) :
    Calls Tryz.prog 10 #[.pointer (some ⟨p.a, 0, none⟩), .pointer (some ⟨q, 0, none⟩), .agg #[.int .u8 0, .int .i64 r, .int .i64 i, .int .i64 x, .int .i64 y]] wr (AllEnd w p q lo c ((D.mkD x y).dye (D.mkR x y))) := by
  have h64 : In64 (D.mkR x y) := by
    unfold Wd.mkR In64
    split <;> omega
  have HDy := Lib.hid (T.dye c (D.mkD x y) (D.mkR x y) h64)
  have HBk := Lib.hid (Blk.new wr #[.int .u8 0, .int .i64 r, .int .i64 i, .int .i64 x, .int .i64 y] 33)
  have HNo := Lib.hid h.box
  have HT0 := Lib.hid (h.later (below_new wr (.cells #[.int .u8 0, .int .i64 r, .int .i64 i, .int .i64 x, .int .i64 y] 33)))
  have HMk := Lib.hid (HT0.out.make O x y)
  have HWm := Lib.hid (fun wz D1 (hz : TSt w p q lo c D1 D wz) => hz.world (w_make x y hz.2.1 hc hts hb))
  have HWd := Lib.hid (fun wz D1 (hz : TSt w p q lo c D1 (D.mkD x y) wz) => hz.world (hz.2.1.dyeW (D.mkR x y)))
  have n1 : (((D.mkD x y).find (D.mkR x y)).isSome == ((D.mkD x y).find (D.mkR x y)).isSome) = true := by simp
  have n2 : (D.mkR x y == D.mkR x y) = true := by simp
  have n3 : (D.mkE x y == D.mkE x y) = true := by simp
  clear h hc hts hb h64
  go_enter Tryz.func10, Tryz.ntmps10
  go_wp2_with fail
  generalize hw0 : wr.alloc (.cells #[.int .u8 0, .int .i64 r, .int .i64 i, .int .i64 x, .int .i64 y] 33) = w0 at *
  generalize hn0 : wr.heap.size = n0 at *
  refine HMk.out.mono ?_
  rintro e w1 ⟨rfl, hS, hT⟩
  have hk := HBk.out.touch hT HNo.out
  have d3 : w1.cell? ⟨n0, 3, none⟩ = some (.int .i64 x) := hk.cell 3 rfl
  have d4 : w1.cell? ⟨n0, 4, none⟩ = some (.int .i64 y) := hk.cell 4 rfl
  have H1 := Lib.hid hS
  clear hS hT hk
  go_wp2_with fail
  refine (HWm.out _ _ H1.out).mono ?_
  rintro e w2 ⟨rfl, hS, hT⟩
  have H2 := Lib.hid hS
  clear hS hT
  go_wp2_with fail
  refine (H2.out.does HDy.out).mono ?_
  rintro e w3 ⟨rfl, hS, hT⟩
  have H3 := Lib.hid hS
  clear hS hT
  go_wp2_with fail
  refine (HWd.out _ _ H3.out).mono ?_
  rintro e w4 ⟨rfl, hS, hT⟩
  have H4 := Lib.hid hS
  clear hS hT
  go_wp2_with fail
  all_goals go_ret
  all_goals exact ⟨rfl, H4.out⟩
end
end Go.Proofs.YtmcgplblbdjaiaaGreat.Pk

/-
  Layer 13: an act on one object, both ways (over the bundles).
-/
namespace Go.Proofs.YtmcgplblbdjaiaaGreat.Pk
open Go.RowKit
set_option linter.unusedVariables false
set_option linter.unusedSimpArgs false
set_option maxRecDepth 100000
section
variable {w wr w' : World} {p : Pl} {q lo m : Nat} {c : Cf} {D D2 D' : Wd}
set_option maxHeartbeats 2000000 in
theorem act4 (T : TintFns) (h : TSm w p q lo c D D m wr) (r i x y : Int) (hr : In64 r) :
    Calls Tryz.prog 11 #[.pointer (some ⟨p.a, 0, none⟩), .pointer (some ⟨q, 0, none⟩), .agg #[.int .u8 4, .int .i64 r, .int .i64 i, .int .i64 x, .int .i64 y]] wr (ActEnd w p q lo c (D.dye r) m) := by
  have HP := Lib.hid (T.dye c D r hr)
  have HBk := Lib.hid (Blk.new wr #[.int .u8 4, .int .i64 r, .int .i64 i, .int .i64 x, .int .i64 y] 33)
  have HNo := Lib.hid h.box
  have HT0 := Lib.hid (h.later (below_new wr (.cells #[.int .u8 4, .int .i64 r, .int .i64 i, .int .i64 x, .int .i64 y] 33)))
  have HW := Lib.hid (fun wz m' D1 (hz : TSm w p q lo c D1 D m' wz) => hz.world (hz.2.1.dyeW r))
  have n1 : ((D.find r).isSome == (D.find r).isSome) = true := by simp
  clear h
  go_enter Tryz.func11, Tryz.ntmps11
  go_wp2_with fail
  generalize wr.alloc (.cells #[.int .u8 4, .int .i64 r, .int .i64 i, .int .i64 x, .int .i64 y] 33) = w0 at *
  generalize wr.heap.size = n0 at *
  have b0 : w0.cell? ⟨n0, 0, none⟩ = some (.int .u8 4) := HBk.out.cell 0 rfl
  have b1 : w0.cell? ⟨n0, 1, none⟩ = some (.int .i64 r) := HBk.out.cell 1 rfl
  have b2 : w0.cell? ⟨n0, 2, none⟩ = some (.int .i64 i) := HBk.out.cell 2 rfl
  have HTd := Lib.hid HT0.out.drew
  go_region_with (first | (go_at_call 16; refine (HTd.out.does HP.out).mono ?_; rintro e w1 ⟨rfl, ⟨d, hd, hS⟩, hT⟩; have hk := HBk.out.drew.touch hT HNo.out; have b0 : w1.cell? ⟨n0, 0, none⟩ = some (.int .u8 4) := hk.cell 0 rfl; have b1 : w1.cell? ⟨n0, 1, none⟩ = some (.int .i64 r) := hk.cell 1 rfl; have b2 : w1.cell? ⟨n0, 2, none⟩ = some (.int .i64 i) := hk.cell 2 rfl; have H1 := Lib.hid hS; have Hd := Lib.hid hd; clear hS hd hT hk) | (go_at_call 40; refine (HW.out _ _ _ H1.out).mono ?_; rintro e w2 ⟨rfl, hS⟩; have H2 := Lib.hid hS; clear hS))
  all_goals (go_wp2_with fail)
  all_goals go_ret
  all_goals exact ⟨rfl, _, Hd.out, H2.out⟩
set_option maxHeartbeats 2000000 in
theorem act5 (T : TintFns) (h : TSm w p q lo c D D m wr) (r i x y : Int) (hr : In64 r) :
    Calls Tryz.prog 11 #[.pointer (some ⟨p.a, 0, none⟩), .pointer (some ⟨q, 0, none⟩), .agg #[.int .u8 5, .int .i64 r, .int .i64 i, .int .i64 x, .int .i64 y]] wr (ActEnd w p q lo c (D.paint r) m) := by
  have HP := Lib.hid (T.paint c D r hr)
  have HBk := Lib.hid (Blk.new wr #[.int .u8 5, .int .i64 r, .int .i64 i, .int .i64 x, .int .i64 y] 33)
  have HNo := Lib.hid h.box
  have HT0 := Lib.hid (h.later (below_new wr (.cells #[.int .u8 5, .int .i64 r, .int .i64 i, .int .i64 x, .int .i64 y] 33)))
  have HW := Lib.hid (fun wz m' D1 (hz : TSm w p q lo c D1 D m' wz) => hz.world (hz.2.1.paintW r))
  have n1 : ((D.find r).isSome == (D.find r).isSome) = true := by simp
  clear h
  go_enter Tryz.func11, Tryz.ntmps11
  go_wp2_with fail
  generalize wr.alloc (.cells #[.int .u8 5, .int .i64 r, .int .i64 i, .int .i64 x, .int .i64 y] 33) = w0 at *
  generalize wr.heap.size = n0 at *
  have b0 : w0.cell? ⟨n0, 0, none⟩ = some (.int .u8 5) := HBk.out.cell 0 rfl
  have b1 : w0.cell? ⟨n0, 1, none⟩ = some (.int .i64 r) := HBk.out.cell 1 rfl
  have b2 : w0.cell? ⟨n0, 2, none⟩ = some (.int .i64 i) := HBk.out.cell 2 rfl
  have HTd := Lib.hid HT0.out.drew
  go_region_with (first | (go_at_call 29; refine (HTd.out.does HP.out).mono ?_; rintro e w1 ⟨rfl, ⟨d, hd, hS⟩, hT⟩; have hk := HBk.out.drew.touch hT HNo.out; have b0 : w1.cell? ⟨n0, 0, none⟩ = some (.int .u8 5) := hk.cell 0 rfl; have b1 : w1.cell? ⟨n0, 1, none⟩ = some (.int .i64 r) := hk.cell 1 rfl; have b2 : w1.cell? ⟨n0, 2, none⟩ = some (.int .i64 i) := hk.cell 2 rfl; have H1 := Lib.hid hS; have Hd := Lib.hid hd; clear hS hd hT hk) | (go_at_call 43; refine (HW.out _ _ _ H1.out).mono ?_; rintro e w2 ⟨rfl, hS⟩; have H2 := Lib.hid hS; clear hS))
  all_goals (go_wp2_with fail)
  all_goals go_ret
  all_goals exact ⟨rfl, _, Hd.out, H2.out⟩
set_option maxHeartbeats 2000000 in
theorem act6 (T : TintFns) (h : TSm w p q lo c D D m wr) (r i x y : Int) (hr : In64 r) (hb : D.ring.length ≤ 8000) :
    Calls Tryz.prog 11 #[.pointer (some ⟨p.a, 0, none⟩), .pointer (some ⟨q, 0, none⟩), .agg #[.int .u8 6, .int .i64 r, .int .i64 i, .int .i64 x, .int .i64 y]] wr (ActEnd w p q lo c (D.touch r) m) := by
  have HP := Lib.hid (T.touch c D r hr)
  have HBk := Lib.hid (Blk.new wr #[.int .u8 6, .int .i64 r, .int .i64 i, .int .i64 x, .int .i64 y] 33)
  have HNo := Lib.hid h.box
  have HT0 := Lib.hid (h.later (below_new wr (.cells #[.int .u8 6, .int .i64 r, .int .i64 i, .int .i64 x, .int .i64 y] 33)))
  have HW := Lib.hid (fun wz m' D1 (hz : TSm w p q lo c D1 D m' wz) => hz.world (hz.2.1.touchW r hb))
  have n1 : ((D.toucht r) == (D.toucht r)) = true := by simp
  clear h
  go_enter Tryz.func11, Tryz.ntmps11
  go_wp2_with fail
  generalize wr.alloc (.cells #[.int .u8 6, .int .i64 r, .int .i64 i, .int .i64 x, .int .i64 y] 33) = w0 at *
  generalize wr.heap.size = n0 at *
  have b0 : w0.cell? ⟨n0, 0, none⟩ = some (.int .u8 6) := HBk.out.cell 0 rfl
  have b1 : w0.cell? ⟨n0, 1, none⟩ = some (.int .i64 r) := HBk.out.cell 1 rfl
  have b2 : w0.cell? ⟨n0, 2, none⟩ = some (.int .i64 i) := HBk.out.cell 2 rfl
  have HTd := Lib.hid HT0.out.drew
  go_region_with (first | (go_at_call 22; refine (HTd.out.does HP.out).mono ?_; rintro e w1 ⟨rfl, ⟨d, hd, hS⟩, hT⟩; have hk := HBk.out.drew.touch hT HNo.out; have b0 : w1.cell? ⟨n0, 0, none⟩ = some (.int .u8 6) := hk.cell 0 rfl; have b1 : w1.cell? ⟨n0, 1, none⟩ = some (.int .i64 r) := hk.cell 1 rfl; have b2 : w1.cell? ⟨n0, 2, none⟩ = some (.int .i64 i) := hk.cell 2 rfl; have H1 := Lib.hid hS; have Hd := Lib.hid hd; clear hS hd hT hk) | (go_at_call 44; refine (HW.out _ _ _ H1.out).mono ?_; rintro e w2 ⟨rfl, hS⟩; have H2 := Lib.hid hS; clear hS))
  all_goals (go_wp2_with fail)
  all_goals go_ret
  all_goals exact ⟨rfl, _, Hd.out, H2.out⟩
set_option maxHeartbeats 2000000 in
theorem act7 (T : TintFns) (h : TSm w p q lo c D D m wr) (r i x y : Int) (hr : In64 r) :
    Calls Tryz.prog 11 #[.pointer (some ⟨p.a, 0, none⟩), .pointer (some ⟨q, 0, none⟩), .agg #[.int .u8 7, .int .i64 r, .int .i64 i, .int .i64 x, .int .i64 y]] wr (ActEnd w p q lo c (D.kill r) m) := by
  have HP := Lib.hid (T.kill c D r hr)
  have HBk := Lib.hid (Blk.new wr #[.int .u8 7, .int .i64 r, .int .i64 i, .int .i64 x, .int .i64 y] 33)
  have HNo := Lib.hid h.box
  have HT0 := Lib.hid (h.later (below_new wr (.cells #[.int .u8 7, .int .i64 r, .int .i64 i, .int .i64 x, .int .i64 y] 33)))
  have HW := Lib.hid (fun wz m' D1 (hz : TSm w p q lo c D1 D m' wz) => hz.world (hz.2.1.killW r))
  have n1 : (((D.find r).isSome && !D.dead r) == ((D.find r).isSome && !D.dead r)) = true := by simp
  clear h
  go_enter Tryz.func11, Tryz.ntmps11
  go_wp2_with fail
  generalize wr.alloc (.cells #[.int .u8 7, .int .i64 r, .int .i64 i, .int .i64 x, .int .i64 y] 33) = w0 at *
  generalize wr.heap.size = n0 at *
  have b0 : w0.cell? ⟨n0, 0, none⟩ = some (.int .u8 7) := HBk.out.cell 0 rfl
  have b1 : w0.cell? ⟨n0, 1, none⟩ = some (.int .i64 r) := HBk.out.cell 1 rfl
  have b2 : w0.cell? ⟨n0, 2, none⟩ = some (.int .i64 i) := HBk.out.cell 2 rfl
  have HTd := Lib.hid HT0.out.drew
  go_region_with (first | (go_at_call 31; refine (HTd.out.does HP.out).mono ?_; rintro e w1 ⟨rfl, ⟨d, hd, hS⟩, hT⟩; have hk := HBk.out.drew.touch hT HNo.out; have b0 : w1.cell? ⟨n0, 0, none⟩ = some (.int .u8 7) := hk.cell 0 rfl; have b1 : w1.cell? ⟨n0, 1, none⟩ = some (.int .i64 r) := hk.cell 1 rfl; have b2 : w1.cell? ⟨n0, 2, none⟩ = some (.int .i64 i) := hk.cell 2 rfl; have H1 := Lib.hid hS; have Hd := Lib.hid hd; clear hS hd hT hk) | (go_at_call 45; refine (HW.out _ _ _ H1.out).mono ?_; rintro e w2 ⟨rfl, hS⟩; have H2 := Lib.hid hS; clear hS))
  all_goals (go_wp2_with fail)
  all_goals go_ret
  all_goals exact ⟨rfl, _, Hd.out, H2.out⟩
set_option maxHeartbeats 2000000 in
theorem act8 (T : TintFns) (h : TSm w p q lo c D D m wr) (r i x y : Int) (hr : In64 r) (hb : 0 ≤ D.shd r ∧ D.shd r ≤ 1000000) :
    Calls Tryz.prog 11 #[.pointer (some ⟨p.a, 0, none⟩), .pointer (some ⟨q, 0, none⟩), .agg #[.int .u8 8, .int .i64 r, .int .i64 i, .int .i64 x, .int .i64 y]] wr (ActEnd w p q lo c (D.deepen r) m) := by
  have HP := Lib.hid (T.deepen c D r hr (by omega))
  have HBk := Lib.hid (Blk.new wr #[.int .u8 8, .int .i64 r, .int .i64 i, .int .i64 x, .int .i64 y] 33)
  have HNo := Lib.hid h.box
  have HT0 := Lib.hid (h.later (below_new wr (.cells #[.int .u8 8, .int .i64 r, .int .i64 i, .int .i64 x, .int .i64 y] 33)))
  have HW := Lib.hid (fun wz m' D1 (hz : TSm w p q lo c D1 D m' wz) => hz.world (hz.2.1.deepenW r hb))
  have n1 : ((D.find r).isSome == (D.find r).isSome) = true := by simp
  clear h
  go_enter Tryz.func11, Tryz.ntmps11
  go_wp2_with fail
  generalize wr.alloc (.cells #[.int .u8 8, .int .i64 r, .int .i64 i, .int .i64 x, .int .i64 y] 33) = w0 at *
  generalize wr.heap.size = n0 at *
  have b0 : w0.cell? ⟨n0, 0, none⟩ = some (.int .u8 8) := HBk.out.cell 0 rfl
  have b1 : w0.cell? ⟨n0, 1, none⟩ = some (.int .i64 r) := HBk.out.cell 1 rfl
  have b2 : w0.cell? ⟨n0, 2, none⟩ = some (.int .i64 i) := HBk.out.cell 2 rfl
  have HTd := Lib.hid HT0.out.drew
  go_region_with (first | (go_at_call 18; refine (HTd.out.does HP.out).mono ?_; rintro e w1 ⟨rfl, ⟨d, hd, hS⟩, hT⟩; have hk := HBk.out.drew.touch hT HNo.out; have b0 : w1.cell? ⟨n0, 0, none⟩ = some (.int .u8 8) := hk.cell 0 rfl; have b1 : w1.cell? ⟨n0, 1, none⟩ = some (.int .i64 r) := hk.cell 1 rfl; have b2 : w1.cell? ⟨n0, 2, none⟩ = some (.int .i64 i) := hk.cell 2 rfl; have H1 := Lib.hid hS; have Hd := Lib.hid hd; clear hS hd hT hk) | (go_at_call 46; refine (HW.out _ _ _ H1.out).mono ?_; rintro e w2 ⟨rfl, hS⟩; have H2 := Lib.hid hS; clear hS))
  all_goals (go_wp2_with fail)
  all_goals go_ret
  all_goals exact ⟨rfl, _, Hd.out, H2.out⟩
set_option maxHeartbeats 2000000 in
theorem act9 (T : TintFns) (h : TSm w p q lo c D D m wr) (r i x y : Int) (hr : In64 r) (hb : 0 ≤ D.shd r ∧ D.shd r ≤ 1000000) :
    Calls Tryz.prog 11 #[.pointer (some ⟨p.a, 0, none⟩), .pointer (some ⟨q, 0, none⟩), .agg #[.int .u8 9, .int .i64 r, .int .i64 i, .int .i64 x, .int .i64 y]] wr (ActEnd w p q lo c (D.lighten r) m) := by
  have HP := Lib.hid (T.lighten c D r hr)
  have HBk := Lib.hid (Blk.new wr #[.int .u8 9, .int .i64 r, .int .i64 i, .int .i64 x, .int .i64 y] 33)
  have HNo := Lib.hid h.box
  have HT0 := Lib.hid (h.later (below_new wr (.cells #[.int .u8 9, .int .i64 r, .int .i64 i, .int .i64 x, .int .i64 y] 33)))
  have HW := Lib.hid (fun wz m' D1 (hz : TSm w p q lo c D1 D m' wz) => hz.world (hz.2.1.lightenW r hb))
  have n1 : ((D.lighter r) == (D.lighter r)) = true := by simp
  clear h
  go_enter Tryz.func11, Tryz.ntmps11
  go_wp2_with fail
  generalize wr.alloc (.cells #[.int .u8 9, .int .i64 r, .int .i64 i, .int .i64 x, .int .i64 y] 33) = w0 at *
  generalize wr.heap.size = n0 at *
  have b0 : w0.cell? ⟨n0, 0, none⟩ = some (.int .u8 9) := HBk.out.cell 0 rfl
  have b1 : w0.cell? ⟨n0, 1, none⟩ = some (.int .i64 r) := HBk.out.cell 1 rfl
  have b2 : w0.cell? ⟨n0, 2, none⟩ = some (.int .i64 i) := HBk.out.cell 2 rfl
  have HTd := Lib.hid HT0.out.drew
  go_region_with (first | (go_at_call 25; refine (HTd.out.does HP.out).mono ?_; rintro e w1 ⟨rfl, ⟨d, hd, hS⟩, hT⟩; have hk := HBk.out.drew.touch hT HNo.out; have b0 : w1.cell? ⟨n0, 0, none⟩ = some (.int .u8 9) := hk.cell 0 rfl; have b1 : w1.cell? ⟨n0, 1, none⟩ = some (.int .i64 r) := hk.cell 1 rfl; have b2 : w1.cell? ⟨n0, 2, none⟩ = some (.int .i64 i) := hk.cell 2 rfl; have H1 := Lib.hid hS; have Hd := Lib.hid hd; clear hS hd hT hk) | (go_at_call 47; refine (HW.out _ _ _ H1.out).mono ?_; rintro e w2 ⟨rfl, hS⟩; have H2 := Lib.hid hS; clear hS))
  all_goals (go_wp2_with fail)
  all_goals go_ret
  all_goals exact ⟨rfl, _, Hd.out, H2.out⟩
set_option maxHeartbeats 2000000 in
theorem act10 (T : TintFns) (h : TSm w p q lo c D D m wr) (r i x y : Int) (hr : In64 r) :
    Calls Tryz.prog 11 #[.pointer (some ⟨p.a, 0, none⟩), .pointer (some ⟨q, 0, none⟩), .agg #[.int .u8 10, .int .i64 r, .int .i64 i, .int .i64 x, .int .i64 y]] wr (ActEnd w p q lo c (D.done r) m) := by
  have HP := Lib.hid (T.done c D r hr)
  have HBk := Lib.hid (Blk.new wr #[.int .u8 10, .int .i64 r, .int .i64 i, .int .i64 x, .int .i64 y] 33)
  have HNo := Lib.hid h.box
  have HT0 := Lib.hid (h.later (below_new wr (.cells #[.int .u8 10, .int .i64 r, .int .i64 i, .int .i64 x, .int .i64 y] 33)))
  have HW := Lib.hid (fun wz m' D1 (hz : TSm w p q lo c D1 D m' wz) => hz.world (hz.2.1.doneW r))
  have n1 : ((D.find r).isSome == (D.find r).isSome) = true := by simp
  clear h
  go_enter Tryz.func11, Tryz.ntmps11
  go_wp2_with fail
  generalize wr.alloc (.cells #[.int .u8 10, .int .i64 r, .int .i64 i, .int .i64 x, .int .i64 y] 33) = w0 at *
  generalize wr.heap.size = n0 at *
  have b0 : w0.cell? ⟨n0, 0, none⟩ = some (.int .u8 10) := HBk.out.cell 0 rfl
  have b1 : w0.cell? ⟨n0, 1, none⟩ = some (.int .i64 r) := HBk.out.cell 1 rfl
  have b2 : w0.cell? ⟨n0, 2, none⟩ = some (.int .i64 i) := HBk.out.cell 2 rfl
  have HTd := Lib.hid HT0.out.drew
  go_region_with (first | (go_at_call 32; refine (HTd.out.does HP.out).mono ?_; rintro e w1 ⟨rfl, ⟨d, hd, hS⟩, hT⟩; have hk := HBk.out.drew.touch hT HNo.out; have b0 : w1.cell? ⟨n0, 0, none⟩ = some (.int .u8 10) := hk.cell 0 rfl; have b1 : w1.cell? ⟨n0, 1, none⟩ = some (.int .i64 r) := hk.cell 1 rfl; have b2 : w1.cell? ⟨n0, 2, none⟩ = some (.int .i64 i) := hk.cell 2 rfl; have H1 := Lib.hid hS; have Hd := Lib.hid hd; clear hS hd hT hk) | (go_at_call 48; refine (HW.out _ _ _ H1.out).mono ?_; rintro e w2 ⟨rfl, hS⟩; have H2 := Lib.hid hS; clear hS))
  all_goals (go_wp2_with fail)
  all_goals go_ret
  all_goals exact ⟨rfl, _, Hd.out, H2.out⟩
end
end Go.Proofs.YtmcgplblbdjaiaaGreat.Pk

/-
  Layer 13: an act of any kind, both ways (over the bundles).
-/
namespace Go.Proofs.YtmcgplblbdjaiaaGreat.Pk
open Go.RowKit
set_option linter.unusedVariables false
set_option linter.unusedSimpArgs false
set_option maxRecDepth 100000

section
variable {w wr w' : World} {p : Pl} {q lo m n k : Nat} {c : Cf} {D D2 D' : Wd}
theorem WIn.lq (h : WIn D n k) (hn : n ≤ 40) (hk : k ≤ 101) : LQ D := by
  refine ⟨by have := h.rl; omega, by have := h.tl; omega, fun t ht => by have := h.hd t ht; omega⟩
/-- An act on the whole. -/
theorem all_any (O : ObjFns) (T : TintFns) (h : TSt w p q lo c D D wr) (hI : WIn D n k) (hn : n ≤ 40) (hk : k ≤ 100) (a r i x y : Int) (ha : 0 ≤ a ∧ a < 4) :
    Calls Tryz.prog 10 #[.pointer (some ⟨p.a, 0, none⟩), .pointer (some ⟨q, 0, none⟩), .agg #[.int .u8 a, .int .i64 r, .int .i64 i, .int .i64 x, .int .i64 y]] wr
      fun e w' => e = .returned (.bool true) ∧ ∃ D', WIn D' n (k + 1) ∧ TSt w p q lo c D' D' w' := by
  have h1 := hI.cn
  have h2 := hI.tl
  have h3 := hI.mkB
  have h4 : a = 0 ∨ a = 1 ∨ a = 2 ∨ a = 3 := by omega
  rcases h4 with rfl | rfl | rfl | rfl
  · exact (act0 O T h r i x y (by omega) (by omega) (by omega)).mono fun e w' ⟨e1, e2⟩ => ⟨e1, _, hI.make x y _, e2⟩
  · exact (act1 T h r i x y hI.pa).mono fun e w' ⟨e1, e2⟩ => ⟨e1, _, hI.turn, e2⟩
  · exact (act2 T h r i x y).mono fun e w' ⟨e1, e2⟩ => ⟨e1, _, hI.begin_ i, e2⟩
  · exact (act3 T h r i x y).mono fun e w' ⟨e1, e2⟩ => ⟨e1, _, hI.move r i, e2⟩
/-- An act on one object. -/
theorem one_any (T : TintFns) (h : TSm w p q lo c D D m wr) (hI : WIn D n k) (hn : n ≤ 40) (hk : k ≤ 100) (a r i x y : Int) (hr : In64 r) (ha : 4 ≤ a) :
    Calls Tryz.prog 11 #[.pointer (some ⟨p.a, 0, none⟩), .pointer (some ⟨q, 0, none⟩), .agg #[.int .u8 a, .int .i64 r, .int .i64 i, .int .i64 x, .int .i64 y]] wr
      fun e w' => e = .returned (.bool true) ∧ ∃ D' d, WIn D' n (k + 1) ∧ d ≤ 32 ∧ TSm w p q lo c D' D' (m + d) w' := by
  have h2 := hI.rl
  have h3 := hI.shd r
  by_cases h4 : a ≤ 10
  · have h5 : a = 4 ∨ a = 5 ∨ a = 6 ∨ a = 7 ∨ a = 8 ∨ a = 9 ∨ a = 10 := by omega
    rcases h5 with rfl | rfl | rfl | rfl | rfl | rfl | rfl
    · exact (act4 T h r i x y hr).mono fun e w' ⟨e1, d, e2, e3⟩ => ⟨e1, _, d, hI.dye r, e2, e3⟩
    · exact (act5 T h r i x y hr).mono fun e w' ⟨e1, d, e2, e3⟩ => ⟨e1, _, d, hI.paint r, e2, e3⟩
    · exact (act6 T h r i x y hr (by omega)).mono fun e w' ⟨e1, d, e2, e3⟩ => ⟨e1, _, d, hI.touch r, e2, e3⟩
    · exact (act7 T h r i x y hr).mono fun e w' ⟨e1, d, e2, e3⟩ => ⟨e1, _, d, hI.kill r, e2, e3⟩
    · exact (act8 T h r i x y hr (by omega)).mono fun e w' ⟨e1, d, e2, e3⟩ => ⟨e1, _, d, hI.deepen r, e2, e3⟩
    · exact (act9 T h r i x y hr (by omega)).mono fun e w' ⟨e1, d, e2, e3⟩ => ⟨e1, _, d, hI.lighten r, e2, e3⟩
    · exact (act10 T h r i x y hr).mono fun e w' ⟨e1, d, e2, e3⟩ => ⟨e1, _, d, hI.done r, e2, e3⟩
  · exact (act11 T h a r i x y hr (fun j h6 h7 h8 => by omega)).mono fun e w' ⟨e1, d, e2, e3⟩ => ⟨e1, _, d, hI.more, e2, e3⟩
end
end Go.Proofs.YtmcgplblbdjaiaaGreat.Pk
