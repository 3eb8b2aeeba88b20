/-
  Layer 10: the law of what is kept, of a package pool that does what it must.
-/
import Derived.Test.YtgfpcamgebnfmaaPoolBegun
import Derived.Test.YtgfpcamgebnfmaaArr
import Derived.Deep.RegionHeld3
namespace Go.Proofs.Ytgfpcamgebnfmaa.Pk
open Go.RowKit
set_option linter.unusedVariables false
set_option linter.unusedSimpArgs false

/-- What the law knows of its ground: those that are out have a tag. -/
structure KeepAt (w : World) (p : Pl) (n : Nat) (o : Nat → Bool) (q : Nat) (l : List Nat) (s : St) (wr : World) : Prop where
  gr : G wr p (cfR n) s
  pool : PoolAt (cfR n) s.zs l
  out : ∀ b, b < n → (o b = true ↔ b ∉ l)
  tag : ∀ b, b < n → o b = true → nth s.zs (adr (cfR n) b 0) = 1
  arr : Blk wr q (arrV (fun b => .bool (o b)) n) 4
  hq : ¬ ofG p q
  hQ : w.heap.size ≤ q
  hp : ∀ i, inG p i → w.heap.size ≤ i
  bel : Below w.heap.size w wr
def setO (o : Nat → Bool) (b : Nat) (v : Bool) : Nat → Bool := fun j => if j = b then v else o j
theorem arr_setO (o : Nat → Bool) (n b : Nat) (v : Bool) : (arrV (fun j => Value.bool (o j)) n).setIfInBounds b (.bool v) = arrV (fun j => Value.bool (setO o b v j)) n := by
  rw [arrV_set]
  refine arrV_congr (fun i hi => ?_)
  unfold setO
  by_cases e : i = b <;> simp [e]
/-- The law's store into its array. -/
theorem KeepAt.store {w wr : World} {p : Pl} {n : Nat} {o : Nat → Bool} {q : Nat} {l : List Nat} {s : St} {v : Bool} {b : Nat} (hG : G wr p (cfR n) s) (ha : Blk wr q (arrV (fun b => .bool (o b)) n) 4) (hq : ¬ ofG p q) (hQ : w.heap.size ≤ q) (hp : ∀ i, inG p i → w.heap.size ≤ i) (hb : Below w.heap.size w wr)
    (h1 : PoolAt (cfR n) s.zs l) (h2 : ∀ x, x < n → (setO o b v x = true ↔ x ∉ l)) (h3 : ∀ x, x < n → setO o b v x = true → nth s.zs (adr (cfR n) x 0) = 1) : KeepAt w p n (setO o b v) q l s (wr.setCell ⟨q, b, none⟩ (.bool v)) := by
  have hTq := (Touch.refl (fun i => i = q) wr).setCell (p := ⟨q, b, none⟩) (fun _ => rfl) (.bool v)
  refine ⟨hG.touch hTq (fun i hi e => hq (by rw [← e]; exact hi)), h1, h2, h3, ?_, hq, hQ, hp, hb.setCell (p := ⟨q, b, none⟩) hQ _⟩
  have := ha.set b (.bool v)
  rwa [arr_setO] at this
theorem keep_give {w wr : World} {p : Pl} {n : Nat} {o : Nat → Bool} {q : Nat} {l : List Nat} {s : St} {b : Nat} (h : KeepAt w p n o q l s wr) (hb : b < n) (ho : o b = true) :
    b ∉ l ∧ uK (nth s.zs (adr (cfR n) b 0)) ≠ 0 ∧ PoolAt (cfR n) (poolGiveZ (cfR n) b s.zs) (b :: l) ∧ (∀ x, x < n → (setO o b false x = true ↔ x ∉ b :: l)) ∧ ∀ x, x < n → setO o b false x = true → nth (poolGiveZ (cfR n) b s.zs) (adr (cfR n) x 0) = 1 := by
  have hm := h.gr.may
  have hz := h.gr.len
  have hn := (h.out b hb).1 ho
  refine ⟨hn, by rw [h.tag b hb ho]; decide, (h.pool.give hm hz hb hn).1, fun x hx => ?_, fun x hx hox => ?_⟩
  · unfold setO
    by_cases e : x = b
    · simp [e]
    · rw [if_neg e, h.out x hx]; simp [e]
  · have e : x ≠ b := fun e => by rw [e] at hox; unfold setO at hox; simp at hox
    have hox' : o x = true := by unfold setO at hox; rwa [if_neg e] at hox
    rw [poolGive_out hm hz (fun h => e ((adr_i hm (by omega) (by omega)).1 h).1) (fun h => e ((adr_i hm (by omega) (by omega)).1 h).1) (by unfold adr; omega)]
    exact h.tag x hx hox'
theorem keep_take {w wr : World} {p : Pl} {n : Nat} {o : Nat → Bool} {q : Nat} {t : List Nat} {s : St} {y : Nat} (h : KeepAt w p n o q (y :: t) s wr) :
    y < n ∧ o y = false ∧ PoolAt (cfR n) ((poolTakeZ (cfR n) y s.zs).set (adr (cfR n) y 0) 1) t ∧ (∀ x, x < n → (setO o y true x = true ↔ x ∉ t)) ∧ ∀ x, x < n → setO o y true x = true → nth ((poolTakeZ (cfR n) y s.zs).set (adr (cfR n) y 0) 1) (adr (cfR n) x 0) = 1 := by
  have hm := h.gr.may
  have hz := h.gr.len
  have hy : y < n := h.pool.ch.lt y (by simp)
  have hyt := (List.nodup_cons.1 h.pool.ch.nd).1
  have hoy : o y = false := by
    cases hc : o y with
    | false => rfl
    | true => exact absurd ((h.out y hy).1 hc) (by simp)
  refine ⟨hy, hoy, (h.pool.take hm hz).1.only hm hyt (BlkOnly.set (by have := hm.w; omega) 1), fun x hx => ?_, fun x hx hox => ?_⟩
  · unfold setO
    by_cases e : x = y
    · subst e; simp [hyt]
    · rw [if_neg e, h.out x hx]; simp [e]
  · have hw := hm.w
    have hl : (poolTakeZ (cfR n) y s.zs).length = (cfR n).size := by rw [poolTakeZ_length]; exact hz
    rw [nth_set (by rw [hl]; exact adr_lt hy (by omega))]
    by_cases e : x = y
    · rw [if_pos (by rw [e])]
    · rw [if_neg (fun h => e ((adr_i hm (by omega) (by omega)).1 h).1), poolTake_out hm hz (inBlk_ne e (by omega)) (by unfold adr; omega)]
      have hox' : o x = true := by unfold setO at hox; rwa [if_neg e] at hox
      exact h.tag x hx hox'


set_option maxRecDepth 100000 in
set_option maxHeartbeats 4000000 in
theorem poolKeeps_few (F : PoolFns) (n : Nat) (a : Option Addr) (cap : Nat) (cs : List Int) (w : World) (h0 : 1 ≤ n) (h1 : n ≤ 255) (h2 : cs.length ≤ 300) (hr : Row w .u8 a cs) (hk : ∀ j, 0 ≤ nth cs j ∧ nth cs j < 256) :
    Calls Try.prog 4 #[.int .u8 (n : Int), .slice a cs.length cap] w fun e w' => e = .returned (.bool true) ∧ Below w.heap.size w w' := by
  have HR := Lib.hid hr
  have HK := Lib.hid hk
  have g0 : ¬ (n : Int) < 1 := by omega
  have g2 : ¬ 300 < (cs.length : Int) := by omega
  have HMB := Lib.hid (make_bool n (by omega))
  have HM := Lib.hid (cfR_may h0 (show n ≤ 1000 by omega))
  obtain ⟨zo, hzo, hOp⟩ := F.open_yes (cfR n) HM.out
  obtain ⟨dO, _, HO⟩ := hzo
  have DO := Lib.hid (fun p m w hG => HO p m w hG)
  have HOp := Lib.hid hOp
  clear hr hk HO hOp
  go_enter Try.func4, Try.ntmps4
  go_wp2_with fail
  refine (newR n h0 (by omega) _).mono ?_
  rintro e w1 ⟨p, rfl, hG, hp, hb⟩
  have HG := Lib.hid hG
  have HP : Hid (∀ k, inG p k → w.heap.size ≤ k) := Lib.hid (fun k hk => hp k (Or.inr hk))
  have HB := Lib.hid hb
  clear hG hp hb
  go_wp2_with fail
  refine (DO.out p 0 _ HG.out).mono ?_
  rintro e w4 ⟨rfl, hG4, hT4⟩
  have HG4 := Lib.hid hG4
  have HB4 := Lib.hid (HB.out.trans (hT4.below (B := w.heap.size) HP.out HB.out.size))
  clear hG4 hT4
  have hmb := HMB.out w4
  go_wp2_with fail
  have hk0 : KeepAt w p n (fun _ => false) w4.heap.size (List.range n) ⟨zo, 0 + dO⟩ (w4.alloc (.cells (arrV (fun _ => .bool false) n) 4)) := by
    refine ⟨HG4.out.alloc _, HOp.out.1, fun b hb => ?_, fun b hb h => ?_, Blk.new w4 (arrV (fun _ => .bool false) n) 4, fun hx => by have := HG4.out.ofG_lt hx; omega, HB4.out.size, HP.out, HB4.out.alloc HB4.out.size _⟩
    · simp [hb]
    · cases h
  generalize hw5 : w4.alloc _ = w5 at *
  generalize hq : w4.heap.size = q at *
  have HK0 := Lib.hid hk0
  clear hk0 hmb hw5 hq
  go_loopw [43] (fun i wr => ∃ k : Nat, k ≤ cs.length ∧ i = .int .i64 (k : Int) ∧ ∃ o l s, KeepAt w p n o q l s wr) (fun i _ => cs.length - (intOf i).toNat)
  case atStart => exact ⟨0, Nat.zero_le _, rfl, _, _, _, HK0.out⟩
  case round =>
    obtain ⟨k, hk, rfl, o, l, s, hA⟩ := hrel
    have HA := Lib.hid hA
    by_cases hlt : k < cs.length
    · obtain ⟨b, off, rfl, hb, hc⟩ := HR.out k hlt
      have hc' := (hA.bel.cell (p := ⟨b, off + k, none⟩) hb).trans hc
      have hkk := HK.out k
      obtain ⟨x, hx⟩ : ∃ x : Nat, x = (nth cs k).toNat := ⟨_, rfl⟩
      have hxk : nth cs k = (x : Int) := by omega
      rw [hxk] at hc' hkk
      obtain ⟨y, hy⟩ : ∃ y : Nat, y = x % n := ⟨_, rfl⟩
      have hyn : y < n := by rw [hy]; exact Nat.mod_lt _ (by omega)
      have hrem : Int.tmod (x : Int) (n : Int) = (y : Int) := by rw [hy, Int.tmod_eq_emod_of_nonneg (by omega)]; omega
      have cy := hA.arr.arr hyn
      have hqz : q < wr.heap.size := hA.arr.lt
      clear hA hc hx hxk hy
      cases ho : o y with
      | true =>
        rw [ho] at cy
        obtain ⟨m1, m2, m3, m4, m5⟩ := keep_give HA.out hyn ho
        obtain ⟨d, _, H⟩ := F.give_yes (cfR n) s.zs y l HA.out.gr.wz HA.out.pool.ch hyn m1 m2
        have HD := Lib.hid (fun m w hG => H p m w hG)
        have HM3 := Lib.hid m3
        have HM4 := Lib.hid m4
        have HM5 := Lib.hid m5
        clear H m1 m2 m3 m4 m5 ho
        go_wp2_with fail
        refine (HD.out s.m _ HA.out.gr).mono ?_
        rintro e w6 ⟨rfl, hG6, hT6⟩
        have HG6 := Lib.hid hG6
        have HBo := Lib.hid (HA.out.arr.touch hT6 (fun h => HA.out.hq (Or.inr h)))
        have HB6 := Lib.hid (HA.out.bel.trans (hT6.below (B := w.heap.size) HP.out HA.out.bel.size))
        have c6 := HBo.out.arr hyn
        have f6 := HBo.out.free y
        clear hG6 hT6 cy
        go_wp2_with fail
        go_roundw
        case rel => exact ⟨k + 1, by omega, by go_num, _, _, _, KeepAt.store HG6.out HBo.out HA.out.hq HA.out.hQ HP.out HB6.out HM3.out HM4.out HM5.out⟩
        case measure => simp [intOf]; omega
      | false =>
        rw [ho] at cy
        cases l with
        | nil =>
          obtain ⟨d, _, H⟩ := F.take_no (cfR n) s.zs HA.out.gr.wz HA.out.pool.ch
          have HD := Lib.hid (fun m w hG => H p m w hG)
          clear H ho
          go_wp2_with fail
          refine (HD.out s.m _ HA.out.gr).mono ?_
          rintro e w6 ⟨rfl, hG6, hT6⟩
          have HK6 : Hid (KeepAt w p n o q [] ⟨s.zs, s.m + d⟩ w6) := Lib.hid ⟨hG6, HA.out.pool, HA.out.out, HA.out.tag, HA.out.arr.touch hT6 (fun h => HA.out.hq (Or.inr h)), HA.out.hq, HA.out.hQ, HP.out, HA.out.bel.trans (hT6.below (B := w.heap.size) HP.out HA.out.bel.size)⟩
          clear hG6 hT6 cy
          go_wp2_with fail
          go_roundw
          case rel => exact ⟨k + 1, by omega, by go_num, _, _, _, HK6.out⟩
          case measure => simp [intOf]; omega
        | cons z t =>
          obtain ⟨m1, m2, m3, m4, m5⟩ := keep_take HA.out
          obtain ⟨d, _, H⟩ := F.take_yes (cfR n) s.zs z t HA.out.gr.wz HA.out.pool.ch
          have HD := Lib.hid (fun m w hG => H p m w hG)
          have HM3 := Lib.hid m3
          have HM4 := Lib.hid m4
          have HM5 := Lib.hid m5
          have hz0 : ¬ ((z : Int) < 0) := by omega
          have hz1 : ¬ ((n : Int) ≤ (z : Int)) := by omega
          have HArr := Lib.hid HA.out.arr
          have HO2 := Lib.hid m2
          clear H m3 m4 m5 m2 ho
          go_wp2_with fail
          refine (HD.out s.m _ HA.out.gr).mono ?_
          rintro e w6 ⟨rfl, hG6, hT6⟩
          have HG6 := Lib.hid hG6
          have HBo := Lib.hid (HArr.out.touch hT6 (fun h => HA.out.hq (Or.inr h)))
          have HB6 := Lib.hid (HA.out.bel.trans (hT6.below (B := w.heap.size) HP.out HA.out.bel.size))
          have c6 := HBo.out.arr m1
          rw [HO2.out] at c6
          clear hG6 hT6 cy
          go_wp2_with fail
          refine (setwordW p (cfR n) _ z 0 _ _ 1 _ HG6.out m1 (by simp [cfR]) rfl rfl (by omega) (by omega)).mono ?_
          rintro e w7 ⟨rfl, hG7, hT7⟩
          have HG7 := Lib.hid hG7
          have HBo7 := Lib.hid (HBo.out.touch hT7 (fun h => HA.out.hq (Or.inr h)))
          have HB7 := Lib.hid (HB6.out.trans (hT7.below (B := w.heap.size) HP.out HB6.out.size))
          have c7 := HBo7.out.arr m1
          have f7 := HBo7.out.free z
          clear hG7 hT7 c6
          go_wp2_with fail
          go_roundw
          case rel => exact ⟨k + 1, by omega, by go_num, _, _, _, KeepAt.store HG7.out HBo7.out HA.out.hq HA.out.hQ HP.out HB7.out HM3.out HM4.out HM5.out⟩
          case measure => simp [intOf]; omega
    · have hmb2 := HMB.out wr
      clear hA
      go_wp2_with fail
      have hl := F.list (cfR n) s.zs l HA.out.gr.wz HA.out.pool.ch
      refine (hl p s.m _ (HA.out.gr.alloc _)).mono ?_
      rintro e w6 ⟨a6, cap6, rfl, hr6, hf6, hb6⟩
      have HR6 := Lib.hid hr6
      have HO6 := Lib.hid ((HA.out.arr.alloc (.cells (arrV (fun _ => .bool false) n) 4)).later hb6)
      have HH6 := Lib.hid ((Blk.new wr (arrV (fun _ => .bool false) n) 4).later hb6)
      have HB6 := Lib.hid (below_step (HA.out.bel.alloc HA.out.bel.size _) hb6)
      have HQh : Hid (w.heap.size ≤ wr.heap.size ∧ q < wr.heap.size ∧ wr.heap.size < w6.heap.size) := Lib.hid ⟨HA.out.bel.size, HA.out.arr.lt, by have := hb6.size; simp at this; omega⟩
      have HF6 : Hid (∀ b off, a6 = some ⟨b, off, none⟩ → wr.heap.size + 1 ≤ b) := Lib.hid (fun b off e => by have := hf6 b off e; simpa using this)
      clear hl hr6 hf6 hb6 hmb2
      generalize hh : wr.heap.size = h at *
      clear hh
      go_wp2_with fail
      have hln : l.length ≤ n := nodup_len HA.out.pool.ch.nd HA.out.pool.ch.lt
      go_loopw [97] (fun i w7 => ∃ k : Nat, k ≤ l.length ∧ i = .int .i64 (k : Int) ∧ Blk w7 h (arrV (fun b => .bool (decide (b ∈ l.take k))) n) 4 ∧ Touch (fun i => i = h) w6 w7) (fun i _ => l.length - (intOf i).toNat)
      case atStart => exact ⟨0, Nat.zero_le _, rfl, by simpa using HH6.out, Touch.refl _ _⟩
      case round =>
        obtain ⟨k2, hk2, rfl, hH, hT⟩ := hrel
        have HH := Lib.hid hH
        have HT := Lib.hid hT
        have HRr := Lib.hid (HR6.out.touch hT (fun _ b off e hx => by have := HF6.out b off e; omega))
        have HOr := Lib.hid (HO6.out.touch hT (by have := HQh.out; omega))
        by_cases hlt2 : k2 < l.length
        · obtain ⟨g, off, ea, hg, hc⟩ := HRr.out k2 (by rw [ints_length]; exact hlt2)
          rw [ints_nth hlt2] at hc
          have hbn : l[k2] < n := HA.out.pool.ch.lt _ (List.getElem_mem hlt2)
          have hnot : l[k2] ∉ l.take k2 := take_not HA.out.pool.ch.nd hlt2
          have hout : o l[k2] = false := by
            cases hc2 : o l[k2] with
            | false => rfl
            | true => exact absurd (List.getElem_mem hlt2) ((HA.out.out _ hbn).1 hc2)
          have ch := hH.arr hbn
          rw [decide_eq_false hnot] at ch
          have co := HOr.out.arr hbn
          rw [hout] at co
          have fh := hH.free l[k2]
          have HS : Hid ((arrV (fun b => Value.bool (decide (b ∈ l.take k2))) n).setIfInBounds l[k2] (.bool true) = arrV (fun b => Value.bool (decide (b ∈ l.take (k2 + 1)))) n) := Lib.hid (by
            rw [arrV_set]
            refine arrV_congr (fun i hi => ?_)
            have hm := mem_take_succ hlt2 i
            by_cases e : i = l[k2]
            · rw [if_pos e, decide_eq_true (hm.2 (Or.inr e))]
            · rw [if_neg e]
              congr 1
              exact decide_eq_decide.2 ⟨fun h => hm.2 (Or.inl h), fun h => (hm.1 h).resolve_right e⟩)
          have hq0 : ¬ ((l[k2] : Int) < 0) := by omega
          have hq1 : ¬ ((n : Int) ≤ (l[k2] : Int)) := by omega
          have hqz2 : q < wr.heap.size := HOr.out.lt
          have hhz2 : h < wr.heap.size := hH.lt
          subst ea
          clear hH hT hnot hout
          generalize l[k2] = z at *
          go_wp2_with fail
          go_roundw
          case rel => exact ⟨k2 + 1, by omega, by go_num, HS.out ▸ HH.out.set z (.bool true), HT.out.setCell (p := ⟨h, z, none⟩) (fun _ => rfl) _⟩
          case measure => simp [intOf]; omega
        · have hke : k2 = l.length := by omega
          have HHf : Hid (Blk wr h (arrV (fun b => .bool (decide (b ∈ l))) n) 4) := Lib.hid (by rw [hke, List.take_length] at hH; exact hH)
          have HBr := Lib.hid (HB6.out.trans (hT.below (B := w.heap.size) (fun i hi => by have := HQh.out; omega) HB6.out.size))
          clear hH hT HH HT hke
          go_wp2_with fail
          go_loopw [127] (fun i w8 => ∃ k : Nat, k ≤ n ∧ i = .int .i64 (k : Int) ∧ Drw wr w8) (fun i _ => n - (intOf i).toNat)
          case atStart => exact ⟨0, Nat.zero_le _, rfl, Drw.refl _⟩
          case round =>
            obtain ⟨k3, hk3, rfl, hd⟩ := hrel
            have HD3 := Lib.hid hd
            by_cases hlt3 : k3 < n
            · have ch := (HHf.out.drw hd).arr hlt3
              have co := (HOr.out.drw hd).arr hlt3
              have hne : (decide (k3 ∈ l) == o k3) = false := by
                have := HA.out.out k3 hlt3
                cases hc2 : o k3 with
                | true => rw [decide_eq_false (this.1 hc2)]; rfl
                | false =>
                  have : k3 ∈ l := by
                    by_cases hm : k3 ∈ l
                    · exact hm
                    · rw [hc2] at this; exact absurd (this.2 hm) (by simp)
                  rw [decide_eq_true this]; rfl
              have hz1 := (HHf.out.drw hd).lt
              have hz2 := (HOr.out.drw hd).lt
              generalize decide (k3 ∈ l) = d1 at *
              generalize o k3 = d2 at *
              clear hd
              go_wp2_with fail
              go_quiet (fail)
              go_wp2_with fail
              go_roundw
              case rel => exact ⟨k3 + 1, by omega, by go_num, HD3.out.step _⟩
              case measure => simp [intOf]; omega
            · clear hd
              go_wp2_with fail
              refine (begun10_any F _).mono ?_
              rintro e w9 ⟨rfl, hb9⟩
              have HB9 := Lib.hid (below_step (below_step HBr.out HD3.out.new) hb9)
              clear hb9
              go_wp2_with fail
              go_ret
              exact ⟨rfl, HB9.out⟩

set_option maxRecDepth 100000 in
theorem poolKeeps_out (F : PoolFns) (n : Int) (a : Option Addr) (cap len : Nat) (w : World) (h : n < 1 ∨ 300 < len) (hm : len ≤ maxLen) :
    Calls Try.prog 4 #[.int .u8 n, .slice a len cap] w fun e w' => e = .returned (.bool true) ∧ Below w.heap.size w w' := by
  unfold maxLen at hm
  by_cases h0 : n < 1
  · clear h
    go_enter Try.func4, Try.ntmps4
    go_wp2_with fail
    refine (begun10_any F _).mono ?_
    rintro e w9 ⟨rfl, hb⟩
    go_wp2_with fail
    go_ret
    exact ⟨rfl, hb⟩
  · have g2 : 300 < (len : Int) := by omega
    clear h
    go_enter Try.func4, Try.ntmps4
    go_wp2_with fail
    refine (begun10_any F _).mono ?_
    rintro e w9 ⟨rfl, hb⟩
    go_wp2_with fail
    go_ret
    exact ⟨rfl, hb⟩
theorem poolKeeps_any (F : PoolFns) (n : Int) (a : Option Addr) (cap : Nat) (cs : List Int) (w : World) (hn : (Lit.int .u8 n).wf = true) (hr : Row w .u8 a cs) (hm : cs.length ≤ maxLen) (hk : ∀ x ∈ cs, (Lit.int .u8 x).wf = true) :
    Calls Try.prog 4 #[.int .u8 n, .slice a cs.length cap] w fun e w' => e = .returned (.bool true) ∧ Below w.heap.size w w' := by
  have hn' : 0 ≤ n ∧ n < 256 := by simp [Lit.wf, IntKind.min, IntKind.max, IntKind.bits, IntKind.signed] at hn; omega
  by_cases h : n < 1 ∨ 300 < cs.length
  · exact poolKeeps_out F n a cap _ w h hm
  · obtain ⟨m, rfl⟩ := Int.eq_ofNat_of_zero_le hn'.1
    refine poolKeeps_few F m a cap cs w (by omega) (by omega) (by omega) hr (fun j => ?_)
    by_cases hj : j < cs.length
    · have h3 := hk _ (List.getElem_mem hj)
      have e : nth cs j = cs[j] := by unfold nth; simp [List.getD, hj]
      rw [e]
      simp [Lit.wf, IntKind.min, IntKind.max, IntKind.bits, IntKind.signed] at h3
      omega
    · rw [nth_out (by omega)]; omega

end Go.Proofs.Ytgfpcamgebnfmaa.Pk
