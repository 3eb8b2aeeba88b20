/-
  Texts laid together: GravNam, GravCnt.
-/
import Derived.Test.YtljdbaddockfcaaGreatActsWzEtc
/-
  Steps of the grave: they leave a world as it must be, each is one less; counts stay names. No program in sight.
-/
namespace Go.Proofs.YtljdbaddockfcaaGreat.Pk
open Go.RowKit
set_option linter.unusedVariables false
set_option linter.unusedSimpArgs false
set_option maxRecDepth 100000

section
variable {D D' : Wd} {r : Int} {t s u : Th} {g : Th → Th} {φ : Th → Nat}
theorem updL_updL {f g : Th → Th} (hf : ∀ t, (f t).ended = t.ended ∧ (f t).h = t.h) : ∀ l : List Th, updL r g (updL r f l) = updL r (fun t => g (f t)) l
  | [] => rfl
  | u :: l => by
    have hat : (f u).at r = u.at r := by unfold Th.at; rw [(hf u).1, (hf u).2]
    simp only [updL]
    cases h : u.at r with
    | true => simp [updL, hat, h]
    | false => simp [updL, h, updL_updL hf l]
theorem sumL_mark (r : Int) {f : Mrk → Mrk} (h : ∀ t : Th, φ { t with mr := f t.mr } = φ t) : sumL φ (D.mark r f).ts = sumL φ D.ts := by
  cases hf : D.find r with
  | none => rw [mark_none f hf]
  | some t =>
    have := sumL_upd (φ := φ) (g := fun t => { t with mr := f t.mr }) (t := t) hf (find_at hf).2.1
    rw [h] at this
    show sumL φ (updL r (fun t => { t with mr := f t.mr }) D.ts) = _
    omega
theorem sumL_setP (hf : D.find r = some t) (i : Nat) (x : Int) : sumL φ (D.setP r i x).ts + φ t = sumL φ D.ts + φ { t with pt := t.pt.set i x } := sumL_upd (g := fun t => { t with pt := t.pt.set i x }) hf (find_at hf).2.1
theorem sumL_bury (x : Int) (h : ∀ t : Th, t.mr.dead = false → φ (laidT t) = φ t) : sumL φ (D.bury x).ts = sumL φ D.ts := by
  unfold Wd.bury
  cases hf : D.find x with
  | none => rfl
  | some t =>
    simp only
    cases hd : t.mr.dead with
    | true => simp
    | false =>
      simp only [Bool.false_eq_true, if_false]
      rw [lay_ts]
      have := sumL_upd (φ := φ) (g := fun s => { s with mr := { s.mr with dead := true, left := (t.pt.length : Int), leaves := (t.lv.length : Int) } }) (t := t) hf (find_at hf).2.1
      have e : φ ({ t with mr := { t.mr with dead := true, left := (t.pt.length : Int), leaves := (t.lv.length : Int) } }) = φ t := h t hd
      omega
theorem drain_w (i : Nat) (x : Int) : (D.drain r i x).w = D.w ∧ (D.drain r i x).n = D.n ∧ (D.drain r i x).clean = D.clean := by
  have key : ∀ D2 : Wd, (if (D2.down x).cnt x = 0 then (D2.down x).bury x else D2.down x).w = D2.w ∧ (if (D2.down x).cnt x = 0 then (D2.down x).bury x else D2.down x).n = D2.n ∧ (if (D2.down x).cnt x = 0 then (D2.down x).bury x else D2.down x).clean = D2.clean := fun D2 => by
    split
    · exact ⟨(bury_rest x).2.2, (bury_rest x).2.1, (bury_rest x).1⟩
    · exact ⟨rfl, rfl, rfl⟩
  unfold Wd.drain
  by_cases hc : (D.setP r i 0).cnt x = 0
  · rw [if_pos hc]; exact ⟨rfl, rfl, rfl⟩
  · rw [if_neg hc]
    obtain ⟨k1, k2, k3⟩ := key (if (D.setP r i 0).counted r i then (D.setP r i 0).lighten x else D.setP r i 0)
    refine ⟨k1.trans ?_, k2.trans ?_, k3.trans ?_⟩ <;> split <;> first | rfl | exact (lighten_rest (D := D.setP r i 0) x).2.2.2.2.2.2 | exact (lighten_rest (D := D.setP r i 0) x).2.2.2.2.2.1 | exact (lighten_rest (D := D.setP r i 0) x).2.2.2.2.1
theorem ahead_pos (S : San D) {l : Int} (h : 0 < l) : D.ahead l = (l - 1) * ((D.w : Int) - 1) := by unfold Wd.ahead; rw [if_pos h]
theorem ahead_zero : D.ahead 0 = 0 := by unfold Wd.ahead; rw [if_neg (by omega)]; omega
/-- The first one in the grave. -/
theorem San.head (S : San D) {q : Nat} {rest : List Nat} (hg : D.grave = q :: rest) : ∃ t, t ∈ D.live ∧ t.h + 1 = q ∧ D.find (q : Int) = some t ∧ t.mr.dead = true ∧ DOk D.w t ∧ D.step = D.work q rest t := by
  obtain ⟨t, htl, e⟩ := S.gv q (by rw [hg]; simp)
  have hf : D.find (q : Int) = some t := by have := S.findIt htl; rwa [show ((t.h : Int) + 1) = (q : Int) by omega] at this
  have hk := S.ok t htl
  have hd : t.mr.dead = true := hk.iff_.2 (by rw [e, hg]; simp)
  refine ⟨t, htl, e, hf, hd, hk.dead hd, ?_⟩
  unfold Wd.step
  rw [hg]
  simp only [hf]
theorem cut_mark (r : Int) (j b : Nat) (k : Int) : ((D.cutLeaf r j b).mark r (fun m => { m with leaves := k })).ts = updL r (fun s => { s with lv := s.lv.set j (-1), mr := { s.mr with leaves := k } }) D.ts :=
  updL_updL (f := fun t => { t with lv := t.lv.set j (-1) }) (g := fun t => { t with mr := { t.mr with leaves := k } }) (fun _ => ⟨rfl, rfl⟩) D.ts
theorem San.step (S : San D) : San D.step := by
  cases hg : D.grave with
  | nil => unfold Wd.step; rw [hg]; exact S
  | cons q rest =>
    obtain ⟨t, htl, e, hf, hd, d, es⟩ := S.head hg
    have hk := S.ok t htl
    have hw := S.w
    rw [es]
    unfold Wd.work
    by_cases ha : D.ahead t.mr.leaves < t.mr.left
    · have h0 : 0 ≤ D.ahead t.mr.leaves := by
        unfold Wd.ahead
        refine Int.mul_nonneg ?_ (by omega)
        split <;> omega
      rw [if_pos ha]
      have S1 := S.drain hf (t.mr.left - 1).toNat (nth t.pt (t.mr.left - 1).toNat)
      obtain ⟨f, hf1, k1, k2, k3⟩ := drain_find hf hd (t.mr.left - 1).toNat (nth t.pt (t.mr.left - 1).toNat)
      have hw1 := (drain_w (D := D) (r := (q : Int)) (t.mr.left - 1).toNat (nth t.pt (t.mr.left - 1).toNat)).1
      have kk := S1.ok _ (find_live hf1).1
      refine S1.upd (g := fun s => { s with mr := { s.mr with left := t.mr.left - 1 } }) hf1 (find_at hf1).2.1 rfl rfl rfl rfl ⟨⟨kk.geo.small, kk.geo.big⟩, kk.iff_, fun _ => ?_, fun h => by rw [show _ = true from k1] at h; cases h⟩ (fun b hb => .inl hb) rfl
      have dd := kk.dead k1
      refine ⟨dd.l0, dd.l1, ?_, ?_, fun hl => ?_, dd.there, dd.gone, fun i hi => ?_⟩
      · show 0 ≤ t.mr.left - 1; omega
      · show t.mr.left - 1 ≤ _
        have := dd.f1
        have e2 : (f t.mr).left = t.mr.left := k2
        have e3 : (f t.mr).left ≤ ((t.pt.set (t.mr.left - 1).toNat 0).length : Int) := this
        rw [e2] at e3
        show t.mr.left - 1 ≤ ((t.pt.set (t.mr.left - 1).toNat 0).length : Int)
        omega
      · have h1 := dd.fl hl
        have h2 : (f t.mr).left ≤ (f t.mr).leaves * (((D.drain (q : Int) (t.mr.left - 1).toNat (nth t.pt (t.mr.left - 1).toNat)).w : Int) - 1) := h1
        rw [k2] at h2
        show t.mr.left - 1 ≤ (f t.mr).leaves * _
        omega
      · have hi' : t.mr.left - 1 ≤ (i : Int) := hi
        show nth (t.pt.set (t.mr.left - 1).toNat 0) i = 0
        by_cases ei : (t.mr.left - 1).toNat = i
        · rw [ei]
          by_cases hlt : i < t.pt.length
          · rw [nth_set_eq hlt]
          · rw [nth_out (by simp; omega)]
        · rw [nth_set_ne ei]
          exact d.zero i (by omega)
    · rw [if_neg ha]
      by_cases hl : 0 < t.mr.leaves
      · rw [if_pos hl]
        have hp : pendT t = 1 + t.mr.leaves.toNat := by unfold pendT; rw [hd, if_pos rfl]
        have hlen : ((t.mr.leaves - 1).toNat : Nat) < t.lv.length := by have := d.l1; omega
        have hfl : t.mr.left ≤ (t.mr.leaves - 1) * ((D.w : Int) - 1) := by rw [← ahead_pos S hl]; omega
        refine S.upd (g := fun s => { s with lv := s.lv.set (t.mr.leaves - 1).toNat (-1), mr := { s.mr with leaves := t.mr.leaves - 1 } }) hf (find_at hf).2.1 rfl (cut_mark _ _ _ _) rfl rfl ⟨⟨fun h => ?_, fun h => ?_⟩, hk.iff_, fun _ => ⟨?_, ?_, d.f0, d.f1, fun _ => hfl, fun j hj => ?_, fun j hj hj2 => ?_, d.zero⟩, fun h => by rw [show _ = true from hd] at h; cases h⟩ (fun b hb => .inl hb) ?_
        · have := hk.geo.small h
          rw [this] at hlen
          simp at hlen
        · have := hk.geo.big h
          refine ⟨?_, by simpa using this.2⟩
          show t.lv.set (t.mr.leaves - 1).toNat (-1) ≠ []
          intro hx
          have := congrArg List.length hx
          simp at this
          rw [this] at hlen
          simp at hlen
        · show 0 ≤ t.mr.leaves - 1; omega
        · show t.mr.leaves - 1 ≤ ((t.lv.set (t.mr.leaves - 1).toNat (-1)).length : Int)
          have := d.l1
          simp
          omega
        · have hj' : (j : Int) < t.mr.leaves - 1 := hj
          show ∃ b : Nat, (t.lv.set (t.mr.leaves - 1).toNat (-1))[j]? = some (b : Int)
          rw [List.getElem?_set_ne (by omega)]
          exact d.there j (by omega)
        · have hj' : t.mr.leaves - 1 ≤ (j : Int) := hj
          have hj2' : j < t.lv.length := by simpa using hj2
          show (t.lv.set (t.mr.leaves - 1).toNat (-1))[j]? = some (-1)
          by_cases ej : (t.mr.leaves - 1).toNat = j
          · rw [ej, List.getElem?_set_self hj2']
          · rw [List.getElem?_set_ne ej]
            exact d.gone j (by omega) hj2'
        · have hp2 : pendT ({ t with lv := t.lv.set (t.mr.leaves - 1).toNat (-1), mr := { t.mr with leaves := t.mr.leaves - 1 } }) = 1 + (t.mr.leaves - 1).toNat := by
            unfold pendT
            simp [hd]
          show D.pending - 1 + (pendT t : Int) = D.pending + (pendT ({ t with lv := t.lv.set (t.mr.leaves - 1).toNat (-1), mr := { t.mr with leaves := t.mr.leaves - 1 } }) : Int)
          rw [hp, hp2]
          omega
      · rw [if_neg hl]
        have hl0 : t.mr.leaves = 0 := by have := d.l0; omega
        have hlive : (({ D with grave := rest } : Wd).endAt (q : Int) t.h).live = D.live.filter (fun s => s.h != t.h) := live_upd_end (g := fun s => { s with ended := true }) (fun _ => rfl) S.nd hf
        have hmem : ∀ s, s ∈ D.live.filter (fun s => s.h != t.h) → s ∈ D.live ∧ s.h ≠ t.h := fun s hs => by
          have := List.mem_filter.1 hs
          exact ⟨this.1, by simpa using this.2⟩
        have hnd := S.gd
        rw [hg, List.nodup_cons] at hnd
        have hsum := sumL_end (φ := pendT) (g := fun s => { s with ended := true }) hf rfl
        have hp : pendT t = 1 := by unfold pendT; rw [hd, if_pos rfl, hl0]; rfl
        show San { ({ D with grave := rest } : Wd).endAt (q : Int) t.h with pending := D.pending - 1 }
        refine ⟨S.w, ?_, hnd.2, fun g hg' => ?_, fun s hs => ?_, fun s hs hr => ?_, ?_⟩
        · show ((({ D with grave := rest } : Wd).endAt (q : Int) t.h).live.map Th.h).Nodup
          rw [hlive]
          exact S.nd.sublist (List.Sublist.map _ List.filter_sublist)
        · obtain ⟨u, hu, e2⟩ := S.gv g (by rw [hg]; exact List.mem_cons_of_mem _ hg')
          refine ⟨u, ?_, e2⟩
          show u ∈ (({ D with grave := rest } : Wd).endAt (q : Int) t.h).live
          rw [hlive]
          refine List.mem_filter.2 ⟨hu, ?_⟩
          have : u.h ≠ t.h := fun ex => hnd.1 (by rw [← e, ← ex, e2]; exact hg')
          simpa using this
        · have hs' : s ∈ (({ D with grave := rest } : Wd).endAt (q : Int) t.h).live := hs
          rw [hlive] at hs'
          obtain ⟨h1, h2⟩ := hmem s hs'
          have k := S.ok s h1
          refine ⟨k.geo, ?_, k.dead, k.alive⟩
          show s.mr.dead = true ↔ s.h + 1 ∈ rest
          rw [k.iff_, hg, List.mem_cons]
          exact ⟨fun h => by rcases h with h | h; exact absurd (by omega) h2; exact h, fun h => .inr h⟩
        · have hs' : s ∈ (({ D with grave := rest } : Wd).endAt (q : Int) t.h).live := hs
          rw [hlive] at hs'
          exact S.ring s (hmem s hs').1 hr
        · show D.pending - 1 = (sumL pendT (updL (q : Int) (fun s => { s with ended := true }) D.ts) : Int)
          have := S.pend
          omega
/-! ### Each step is one less -/
end
end Go.Proofs.YtljdbaddockfcaaGreat.Pk

/-
  Counts are names: who is counted how often, whatever the grave drains. No program in sight.
-/
namespace Go.Proofs.YtljdbaddockfcaaGreat.Pk
open Go.RowKit
set_option linter.unusedVariables false
set_option linter.unusedSimpArgs false
set_option maxRecDepth 100000

/-- How often a number stands in a list. -/
def cntL (y : Int) : List Int → Nat
  | [] => 0
  | a :: l => (if a = y then 1 else 0) + cntL y l
theorem cntL_set (y x : Int) : ∀ (l : List Int) (i : Nat), i < l.length → cntL y (l.set i x) + (if nth l i = y then 1 else 0) = cntL y l + (if x = y then 1 else 0)
  | [], i, h => by simp at h
  | a :: l, 0, _ => by
    show (if x = y then 1 else 0) + cntL y l + (if a = y then 1 else 0) = (if a = y then 1 else 0) + cntL y l + (if x = y then 1 else 0)
    omega
  | a :: l, i + 1, h => by
    have := cntL_set y x l i (by simpa using h)
    show (if a = y then 1 else 0) + cntL y (l.set i x) + (if nth l i = y then 1 else 0) = (if a = y then 1 else 0) + cntL y l + (if x = y then 1 else 0)
    omega
theorem cntL_pos {y : Int} : ∀ {l : List Int} {i : Nat}, i < l.length → nth l i = y → 1 ≤ cntL y l
  | [], i, h, _ => by simp at h
  | a :: l, 0, _, e => by
    have : a = y := e
    unfold cntL
    rw [if_pos this]
    omega
  | a :: l, i + 1, h, e => by
    have := cntL_pos (l := l) (i := i) (by simpa using h) e
    unfold cntL
    omega
theorem cntL_zero {y : Int} (hy : y ≠ 0) : ∀ {l : List Int}, (∀ i, nth l i = 0) → cntL y l = 0
  | [], _ => rfl
  | a :: l, h => by
    have h0 : a = 0 := h 0
    unfold cntL
    rw [if_neg (by omega), cntL_zero hy (fun i => h (i + 1))]
/-- How often an object's fields name y. -/
def nmT (y : Int) (t : Th) : Nat := cntL y t.pt
/-- Counts are holds, and names; names are of objects that there are; who is dead has none. -/
structure Nam (hold : Nat → Nat) (D : Wd) : Prop where
  cnt : ∀ t, t ∈ D.live → t.mr.refs = ((hold t.h + sumL (nmT ((t.h : Int) + 1)) D.ts : Nat) : Int)
  good : ∀ t, t ∈ D.live → ∀ i, i < t.pt.length → nth t.pt i = 0 ∨ ∃ u, u ∈ D.live ∧ (u.h : Int) + 1 = nth t.pt i
  zer : ∀ t, t ∈ D.live → t.mr.dead = true → t.mr.refs = 0

section
variable {D D' : Wd} {r : Int} {t s u : Th} {hold : Nat → Nat}
theorem Nam.of (N : Nam hold D) (h1 : ∀ s, s ∈ D'.live → ∃ u, u ∈ D.live ∧ s.h = u.h ∧ s.mr.refs = u.mr.refs ∧ s.pt = u.pt ∧ (s.mr.dead = true → u.mr.dead = true ∨ u.mr.refs = 0)) (h2 : D'.live.map Th.h = D.live.map Th.h) (h3 : ∀ y, sumL (nmT y) D'.ts = sumL (nmT y) D.ts) : Nam hold D' := by
  refine ⟨fun s hs => ?_, fun s hs i hi => ?_, fun s hs hd => ?_⟩
  · obtain ⟨u, hu, e1, e2, e3, e4⟩ := h1 s hs
    rw [e1, e2, h3]
    exact N.cnt u hu
  · obtain ⟨u, hu, e1, e2, e3, e4⟩ := h1 s hs
    rw [e3] at hi ⊢
    rcases N.good u hu i hi with h | ⟨v, hv, h⟩
    · exact .inl h
    · obtain ⟨v', k1, k2⟩ := live_of_heads h2 hv
      exact .inr ⟨v', k1, by rw [k2]; exact h⟩
  · obtain ⟨u, hu, e1, e2, e3, e4⟩ := h1 s hs
    rw [e2]
    rcases e4 hd with h | h
    · exact N.zer u hu h
    · exact h
theorem mark_heads (r : Int) (f : Mrk → Mrk) : (D.mark r f).live.map Th.h = D.live.map Th.h := by
  cases hf : D.find r with
  | none => rw [mark_none f hf]
  | some t => exact updL_heads (g := fun t => { t with mr := f t.mr }) hf (find_at hf).2.1 rfl
theorem mark_live (S : San D) {f : Mrk → Mrk} (hs : s ∈ (D.mark r f).live) : ∃ u, u ∈ D.live ∧ (s = u ∨ s = { u with mr := f u.mr }) := by
  cases hf : D.find r with
  | none => rw [mark_none f hf] at hs; exact ⟨s, hs, .inl rfl⟩
  | some t =>
    rcases updL_mem (g := fun t => { t with mr := f t.mr }) S.nd hf hs with rfl | ⟨h, _⟩
    · exact ⟨t, (find_live hf).1, .inr rfl⟩
    · exact ⟨s, h, .inl rfl⟩
theorem Nam.mark (N : Nam hold D) (S : San D) (r : Int) {f : Mrk → Mrk} (h1 : ∀ m, (f m).refs = m.refs) (h2 : ∀ m, (f m).dead = m.dead) : Nam hold (D.mark r f) := by
  refine N.of (fun s hs => ?_) (mark_heads r f) (fun y => sumL_mark r (fun t => rfl))
  obtain ⟨u, hu, rfl | rfl⟩ := mark_live S hs
  · exact ⟨s, hu, rfl, rfl, rfl, fun h => .inl h⟩
  · exact ⟨u, hu, rfl, h1 _, rfl, fun h => .inl (by rw [← h2]; exact h)⟩
theorem Nam.bury (N : Nam hold D) (S : San D) {x : Int} (h0 : D.cnt x = 0) : Nam hold (D.bury x) := by
  cases hf : D.find x with
  | none => rw [show D.bury x = D by unfold Wd.bury; rw [hf]]; exact N
  | some t =>
    have hr : t.mr.refs = 0 := by unfold Wd.cnt at h0; rw [hf] at h0; exact h0
    have hsum : ∀ y, sumL (nmT y) (D.bury x).ts = sumL (nmT y) D.ts := fun y => sumL_bury x (fun t _ => rfl)
    cases hd : t.mr.dead with
    | true => rw [show D.bury x = D by unfold Wd.bury; rw [hf]; simp [hd]]; exact N
    | false =>
      have eb : D.bury x = D.lay x t := by unfold Wd.bury; rw [hf]; simp [hd]
      rw [eb] at hsum ⊢
      have hts := lay_ts (D := D) x t
      refine N.of (fun s hs => ?_) ?_ hsum
      · unfold Wd.live at hs
        rw [hts] at hs
        rcases updL_mem (g := fun s => { s with mr := { s.mr with dead := true, left := (t.pt.length : Int), leaves := (t.lv.length : Int) } }) S.nd hf hs with rfl | ⟨h, _⟩
        · exact ⟨t, (find_live hf).1, rfl, rfl, rfl, fun _ => .inr hr⟩
        · exact ⟨s, h, rfl, rfl, rfl, fun h => .inl h⟩
      · unfold Wd.live
        rw [hts]
        exact updL_heads (g := fun s => { s with mr := { s.mr with dead := true, left := (t.pt.length : Int), leaves := (t.lv.length : Int) } }) hf (find_at hf).2.1 rfl
theorem Nam.inter (N : Nam hold D) (S : San D) (x : Int) : Nam hold (D.inter x) := by
  unfold Wd.inter
  split
  · rename_i h; exact N.bury S h
  · exact N
/-- One name less than is counted, of x. -/
structure Nam1 (hold : Nat → Nat) (x : Int) (D : Wd) : Prop where
  cnt : ∀ t, t ∈ D.live → t.mr.refs = ((hold t.h + sumL (nmT ((t.h : Int) + 1)) D.ts + (if (t.h : Int) + 1 = x then 1 else 0) : Nat) : Int)
  good : ∀ t, t ∈ D.live → ∀ i, i < t.pt.length → nth t.pt i = 0 ∨ ∃ u, u ∈ D.live ∧ (u.h : Int) + 1 = nth t.pt i
  zer : ∀ t, t ∈ D.live → t.mr.dead = true → t.mr.refs = 0
  there : x = 0 ∨ ∃ u, u ∈ D.live ∧ (u.h : Int) + 1 = x
theorem Nam1.mark {x : Int} (N : Nam1 hold x D) (S : San D) (r : Int) {f : Mrk → Mrk} (h1 : ∀ m, (f m).refs = m.refs) (h2 : ∀ m, (f m).dead = m.dead) : Nam1 hold x (D.mark r f) := by
  have hsum : ∀ y, sumL (nmT y) (D.mark r f).ts = sumL (nmT y) D.ts := fun y => sumL_mark r (fun t => rfl)
  refine ⟨fun s hs => ?_, fun s hs i hi => ?_, fun s hs hd => ?_, ?_⟩
  · rw [hsum]
    obtain ⟨u, hu, rfl | rfl⟩ := mark_live S hs
    · exact N.cnt s hu
    · show (f u.mr).refs = _; rw [h1]; exact N.cnt u hu
  · have : ∃ u, u ∈ D.live ∧ s.pt = u.pt := by
      obtain ⟨u, hu, rfl | rfl⟩ := mark_live S hs
      · exact ⟨s, hu, rfl⟩
      · exact ⟨u, hu, rfl⟩
    obtain ⟨u, hu, e⟩ := this
    rw [e] at hi ⊢
    rcases N.good u hu i hi with h | ⟨v, hv, h⟩
    · exact .inl h
    · obtain ⟨v', k1, k2⟩ := live_of_heads (mark_heads r f) hv
      exact .inr ⟨v', k1, by rw [k2]; exact h⟩
  · obtain ⟨u, hu, rfl | rfl⟩ := mark_live S hs
    · exact N.zer s hu hd
    · show (f u.mr).refs = 0
      rw [h1]
      exact N.zer u hu (by rw [← h2]; exact hd)
  · rcases N.there with h | ⟨u, hu, h⟩
    · exact .inl h
    · obtain ⟨v', k1, k2⟩ := live_of_heads (mark_heads r f) hu
      exact .inr ⟨v', k1, by rw [k2]; exact h⟩
/-- A field is set to nothing. -/
theorem Nam.clear (N : Nam hold D) (S : San D) (hf : D.find r = some t) {i : Nat} (hi : i < t.pt.length) : Nam1 hold (nth t.pt i) (D.setP r i 0) := by
  have htl := (find_live hf).1
  have hsum : ∀ y : Int, y ≠ 0 → sumL (nmT y) (D.setP r i 0).ts + (if nth t.pt i = y then 1 else 0) = sumL (nmT y) D.ts := fun y hy => by
    have h1 := sumL_setP (φ := nmT y) hf i 0
    have h2 := cntL_set y 0 t.pt i hi
    rw [if_neg (Ne.symm hy)] at h2
    have h3 : nmT y { t with pt := t.pt.set i 0 } = cntL y (t.pt.set i 0) := rfl
    have h4 : nmT y t = cntL y t.pt := rfl
    omega
  have hheads : (D.setP r i 0).live.map Th.h = D.live.map Th.h := updL_heads (g := fun t => { t with pt := t.pt.set i 0 }) hf (find_at hf).2.1 rfl
  have hmem : ∀ s, s ∈ (D.setP r i 0).live → s = { t with pt := t.pt.set i 0 } ∨ (s ∈ D.live ∧ s.h ≠ t.h) := fun s hs => updL_mem S.nd hf hs
  have hb : ∀ s, s ∈ (D.setP r i 0).live → ∃ u, u ∈ D.live ∧ s.h = u.h ∧ s.mr = u.mr := fun s hs => by
    rcases hmem s hs with rfl | ⟨h, _⟩
    · exact ⟨t, htl, rfl, rfl⟩
    · exact ⟨s, h, rfl, rfl⟩
  refine ⟨fun s hs => ?_, fun s hs j hj => ?_, fun s hs hd => ?_, ?_⟩
  · obtain ⟨u, hu, e1, e2⟩ := hb s hs
    have h1 := N.cnt u hu
    have h2 := hsum ((u.h : Int) + 1) (by omega)
    rw [e1, e2, h1]
    have e : (if nth t.pt i = (u.h : Int) + 1 then 1 else 0) = (if (u.h : Int) + 1 = nth t.pt i then 1 else 0) := by
      by_cases h : nth t.pt i = (u.h : Int) + 1
      · rw [if_pos h, if_pos h.symm]
      · rw [if_neg h, if_neg (fun x => h x.symm)]
    rw [e] at h2
    omega
  · rcases hmem s hs with rfl | ⟨h, _⟩
    · show nth (t.pt.set i 0) j = 0 ∨ ∃ u : Th, u ∈ (D.setP r i 0).live ∧ (u.h : Int) + 1 = nth (t.pt.set i 0) j
      by_cases e : i = j
      · subst e
        rw [nth_set_eq hi]
        exact .inl rfl
      · rw [nth_set_ne e]
        rcases N.good t htl j (by simpa using hj) with h | ⟨v, hv, h⟩
        · exact .inl h
        · obtain ⟨v', k1, k2⟩ := live_of_heads hheads hv
          exact .inr ⟨v', k1, by rw [k2]; exact h⟩
    · rcases N.good s h j hj with h | ⟨v, hv, h⟩
      · exact .inl h
      · obtain ⟨v', k1, k2⟩ := live_of_heads hheads hv
        exact .inr ⟨v', k1, by rw [k2]; exact h⟩
  · obtain ⟨u, hu, e1, e2⟩ := hb s hs
    rw [e2] at hd ⊢
    exact N.zer u hu hd
  · rcases N.good t htl i hi with h | ⟨v, hv, h⟩
    · exact .inl h
    · obtain ⟨v', k1, k2⟩ := live_of_heads hheads hv
      exact .inr ⟨v', k1, by rw [k2]; exact h⟩
theorem Nam1.none (N : Nam1 hold 0 D) : Nam hold D := ⟨fun t ht => by have := N.cnt t ht; rw [if_neg (by omega)] at this; simpa using this, N.good, N.zer⟩
theorem Nam1.down {x : Int} (N : Nam1 hold x D) (S : San D) : Nam hold (D.down x) := by
  have hsum : ∀ y, sumL (nmT y) (D.down x).ts = sumL (nmT y) D.ts := fun y => sumL_mark x (fun t => rfl)
  have hh := mark_heads (D := D) x (fun m => { m with refs := m.refs - 1 })
  cases hf : D.find x with
  | none =>
    have e : D.down x = D := mark_none _ hf
    rw [e]
    refine ⟨fun t ht => ?_, N.good, N.zer⟩
    have := N.cnt t ht
    rw [if_neg (fun h => by have := S.findIt ht; rw [h, hf] at this; cases this)] at this
    simpa using this
  | some t =>
    obtain ⟨htl, hr⟩ := find_live hf
    have hmem : ∀ s, s ∈ (D.down x).live → s = { t with mr := { t.mr with refs := t.mr.refs - 1 } } ∨ (s ∈ D.live ∧ s.h ≠ t.h) := fun s hs => updL_mem (g := fun t => { t with mr := { t.mr with refs := t.mr.refs - 1 } }) S.nd hf hs
    refine ⟨fun s hs => ?_, fun s hs i hi => ?_, fun s hs hd => ?_⟩
    · rw [hsum]
      rcases hmem s hs with rfl | ⟨h, hne⟩
      · have := N.cnt t htl
        rw [if_pos hr] at this
        show t.mr.refs - 1 = ((hold t.h + sumL (nmT ((t.h : Int) + 1)) D.ts : Nat) : Int)
        omega
      · have := N.cnt s h
        rw [if_neg (by omega)] at this
        simpa using this
    · have : ∃ u, u ∈ D.live ∧ s.pt = u.pt := by
        rcases hmem s hs with rfl | ⟨h, _⟩
        · exact ⟨t, htl, rfl⟩
        · exact ⟨s, h, rfl⟩
      obtain ⟨u, hu, e⟩ := this
      rw [e] at hi ⊢
      rcases N.good u hu i hi with h | ⟨v, hv, h⟩
      · exact .inl h
      · obtain ⟨v', k1, k2⟩ := live_of_heads hh hv
        exact .inr ⟨v', k1, by rw [k2]; exact h⟩
    · rcases hmem s hs with rfl | ⟨h, hne⟩
      · exfalso
        have h0 := N.zer t htl hd
        have := N.cnt t htl
        rw [if_pos hr] at this
        omega
      · exact N.zer s h hd
theorem Nam.drain (N : Nam hold D) (S : San D) (hf : D.find r = some t) {i : Nat} (hi : i < t.pt.length) : Nam hold (D.drain r i (nth t.pt i)) := by
  have N1 := N.clear S hf hi
  have S1 := S.setP hf i (x := 0) (fun _ => rfl)
  generalize nth t.pt i = x at N1
  unfold Wd.drain
  by_cases hc : (D.setP r i 0).cnt x = 0
  · rw [if_pos hc]
    rcases N1.there with rfl | ⟨u, hu, e⟩
    · exact N1.none
    · exfalso
      have h1 := N1.cnt u hu
      rw [if_pos e] at h1
      unfold Wd.cnt at hc
      rw [← e, S1.findIt hu] at hc
      simp only at hc
      omega
  · rw [if_neg hc]
    have key : ∀ D2 : Wd, San D2 → Nam1 hold x D2 → Nam hold (if (D2.down x).cnt x = 0 then (D2.down x).bury x else D2.down x) := fun D2 S2 N2 => by
      split
      · rename_i h; exact (N2.down S2).bury (S2.down x) h
      · exact N2.down S2
    have K : San (if (D.setP r i 0).counted r i then (D.setP r i 0).lighten x else D.setP r i 0) ∧ Nam1 hold x (if (D.setP r i 0).counted r i then (D.setP r i 0).lighten x else D.setP r i 0) := by
      split
      · refine ⟨S1.lighten x, ?_⟩
        unfold Wd.lighten
        split
        · exact N1.mark S1 x (fun _ => rfl) (fun _ => rfl)
        · exact N1
      · exact ⟨S1, N1⟩
    exact key _ K.1 K.2
theorem Nam.step (N : Nam hold D) (S : San D) : Nam hold D.step := by
  cases hg : D.grave with
  | nil => unfold Wd.step; rw [hg]; exact N
  | cons q rest =>
    obtain ⟨t, htl, e, hf, hd, d, es⟩ := S.head hg
    have hw := S.w
    rw [es]
    unfold Wd.work
    by_cases ha : D.ahead t.mr.leaves < t.mr.left
    · have h0 : 0 ≤ D.ahead t.mr.leaves := by
        unfold Wd.ahead
        refine Int.mul_nonneg ?_ (by omega)
        split <;> omega
      rw [if_pos ha]
      have hi : (t.mr.left - 1).toNat < t.pt.length := by have := d.f1; omega
      exact (N.drain S hf hi).mark (S.drain hf _ _) _ (fun _ => rfl) (fun _ => rfl)
    · rw [if_neg ha]
      by_cases hl : 0 < t.mr.leaves
      · rw [if_pos hl]
        refine N.of (fun s hs => ?_) ?_ (fun y => ?_)
        · unfold Wd.live at hs
          have hs' : s ∈ liveL ((D.cutLeaf (q : Int) (t.mr.leaves - 1).toNat (nth t.lv (t.mr.leaves - 1).toNat).toNat).mark (q : Int) (fun m => { m with leaves := t.mr.leaves - 1 })).ts := hs
          rw [cut_mark] at hs'
          rcases updL_mem (g := fun s => { s with lv := s.lv.set (t.mr.leaves - 1).toNat (-1), mr := { s.mr with leaves := t.mr.leaves - 1 } }) S.nd hf hs' with rfl | ⟨h, _⟩
          · exact ⟨t, htl, rfl, rfl, rfl, fun _ => .inl hd⟩
          · exact ⟨s, h, rfl, rfl, rfl, fun h => .inl h⟩
        · show (liveL ((D.cutLeaf (q : Int) (t.mr.leaves - 1).toNat (nth t.lv (t.mr.leaves - 1).toNat).toNat).mark (q : Int) (fun m => { m with leaves := t.mr.leaves - 1 })).ts).map Th.h = _
          rw [cut_mark]
          exact updL_heads (g := fun s => { s with lv := s.lv.set (t.mr.leaves - 1).toNat (-1), mr := { s.mr with leaves := t.mr.leaves - 1 } }) hf (find_at hf).2.1 rfl
        · show sumL (nmT y) ((D.cutLeaf (q : Int) (t.mr.leaves - 1).toNat (nth t.lv (t.mr.leaves - 1).toNat).toNat).mark (q : Int) (fun m => { m with leaves := t.mr.leaves - 1 })).ts = _
          rw [cut_mark]
          have h2 := sumL_upd (φ := nmT y) (g := fun s => { s with lv := s.lv.set (t.mr.leaves - 1).toNat (-1), mr := { s.mr with leaves := t.mr.leaves - 1 } }) hf (find_at hf).2.1
          have h3 : nmT y { t with lv := t.lv.set (t.mr.leaves - 1).toNat (-1), mr := { t.mr with leaves := t.mr.leaves - 1 } } = nmT y t := rfl
          have h2 : _ + nmT y t = _ + nmT y { t with lv := t.lv.set (t.mr.leaves - 1).toNat (-1), mr := { t.mr with leaves := t.mr.leaves - 1 } } := h2
          omega
      · rw [if_neg hl]
        have hl0 : t.mr.leaves = 0 := by have := d.l0; omega
        have hleft : t.mr.left = 0 := by rw [hl0, ahead_zero] at ha; have := d.f0; omega
        have hz : ∀ i, nth t.pt i = 0 := fun i => d.zero i (by omega)
        have hlive : (({ D with grave := rest } : Wd).endAt (q : Int) t.h).live = D.live.filter (fun s => s.h != t.h) := live_upd_end (g := fun s => { s with ended := true }) (fun _ => rfl) S.nd hf
        have hmem : ∀ s, s ∈ D.live.filter (fun s => s.h != t.h) → s ∈ D.live ∧ s.h ≠ t.h := fun s hs => by
          have := List.mem_filter.1 hs
          exact ⟨this.1, by simpa using this.2⟩
        have hsum : ∀ y : Int, y ≠ 0 → sumL (nmT y) (updL (q : Int) (fun s => { s with ended := true }) D.ts) = sumL (nmT y) D.ts := fun y hy => by
          have := sumL_end (φ := nmT y) (g := fun s => { s with ended := true }) hf rfl
          have h0 : nmT y t = 0 := cntL_zero hy hz
          omega
        have hnone : ∀ s, s ∈ D.live → ∀ i, i < s.pt.length → nth s.pt i ≠ (t.h : Int) + 1 := fun s hs i hi e2 => by
          have h1 := N.cnt t htl
          rw [N.zer t htl hd] at h1
          have h2 := sumL_mem (φ := nmT ((t.h : Int) + 1)) hs
          have h3 : 1 ≤ nmT ((t.h : Int) + 1) s := cntL_pos hi e2
          have h4 : nmT ((t.h : Int) + 1) s ≤ sumL (nmT ((t.h : Int) + 1)) D.ts := h2
          omega
        show Nam hold { ({ D with grave := rest } : Wd).endAt (q : Int) t.h with pending := D.pending - 1 }
        refine ⟨fun s hs => ?_, fun s hs i hi => ?_, fun s hs hds => ?_⟩
        · have hs' : s ∈ (({ D with grave := rest } : Wd).endAt (q : Int) t.h).live := hs
          rw [hlive] at hs'
          have := N.cnt s (hmem s hs').1
          rw [this]
          show _ = ((hold s.h + sumL (nmT ((s.h : Int) + 1)) (updL (q : Int) (fun s => { s with ended := true }) D.ts) : Nat) : Int)
          rw [hsum _ (by omega)]
        · have hs' : s ∈ (({ D with grave := rest } : Wd).endAt (q : Int) t.h).live := hs
          rw [hlive] at hs'
          have h1 := (hmem s hs').1
          rcases N.good s h1 i hi with h | ⟨v, hv, h⟩
          · exact .inl h
          · refine .inr ⟨v, ?_, h⟩
            show v ∈ (({ D with grave := rest } : Wd).endAt (q : Int) t.h).live
            rw [hlive]
            refine List.mem_filter.2 ⟨hv, ?_⟩
            have : v.h ≠ t.h := fun ex => hnone s h1 i hi (by rw [← h, ex])
            simpa using this
        · have hs' : s ∈ (({ D with grave := rest } : Wd).endAt (q : Int) t.h).live := hs
          rw [hlive] at hs'
          exact N.zer s (hmem s hs').1 hds
end
end Go.Proofs.YtljdbaddockfcaaGreat.Pk
