/-
  Layer 9: the law of order, of a package ring that does what it must.
-/
import Derived.Test.YtdiegmbaiibndaaRingBegun
import Derived.Test.YtdiegmbaiibndaaArr
import Derived.Deep.RegionHeld3
namespace Go.Proofs.Ytdiegmbaiibndaa.Pk
open Go.RowKit
set_option linter.unusedVariables false
set_option linter.unusedSimpArgs false

/-- Those that were not cut. -/
def alive (o : Nat → Bool) (a m : Nat) : List Nat := (List.range' a m).filter (fun b => !o b)
theorem alive_mem {o : Nat → Bool} {a m b : Nat} : b ∈ alive o a m ↔ (a ≤ b ∧ b < a + m) ∧ o b = false := by
  unfold alive; rw [List.mem_filter, List.mem_range'_1]; simp
theorem alive_out {o : Nat → Bool} {a m : Nat} (h : o a = true) : alive o a (m + 1) = alive o (a + 1) m := by
  unfold alive; rw [List.range'_succ]; simp [h]
theorem alive_in {o : Nat → Bool} {a m : Nat} (h : o a = false) : alive o a (m + 1) = a :: alive o (a + 1) m := by
  unfold alive; rw [List.range'_succ]; simp [h]
theorem alive_none (a m : Nat) : alive (fun _ => false) a m = List.range' a m := by unfold alive; simp
/-- .. and one more is. -/
def cutO (o : Nat → Bool) (b : Nat) : Nat → Bool := fun j => if j = b then true else o j
theorem alive_cut {o : Nat → Bool} {a m b : Nat} : (alive o a m).filter (fun x => x != b) = alive (cutO o b) a m := by
  unfold alive
  rw [List.filter_filter]
  congr 1
  funext x
  unfold cutO
  by_cases e : x = b
  · simp [e]
  · simp [e]
theorem cutO_same {o : Nat → Bool} {b : Nat} (h : o b = true) : cutO o b = o := by
  funext j; unfold cutO; by_cases e : j = b
  · rw [if_pos e, e, h]
  · rw [if_neg e]
/-- The law's ground, and what stands in its ring. -/
def OrdR (w : World) (p : Pl) (n : Nat) (l : List Nat) (wr : World) : Prop :=
  ∃ s, G wr p (cfR n) s ∧ LikeR (cfR n) (List.replicate n 1) l s.zs ∧ (∀ i, inG p i → w.heap.size ≤ i) ∧ Below w.heap.size w wr
theorem OrdR.later {w wr w' : World} {p : Pl} {n : Nat} {l : List Nat} (h : OrdR w p n l wr) (hb : Below wr.heap.size wr w') : OrdR w p n l w' := by
  obtain ⟨s, h1, h2, h3, h4⟩ := h
  exact ⟨s, h1.later hb, h2, h3, below_step h4 hb⟩
theorem OrdR.below {w wr : World} {p : Pl} {n : Nat} {l : List Nat} (h : OrdR w p n l wr) : Below w.heap.size w wr := by
  obtain ⟨s, h1, h2, h3, h4⟩ := h; exact h4
theorem nth_ones {n b : Nat} (h : b < n) : nth (List.replicate n 1) b = 1 := by unfold nth; simp [List.getD, h]
theorem ordr_add (F : RingFns) {w wr : World} {p : Pl} {n : Nat} {l : List Nat} (h : OrdR w p n l wr) (b : Nat) (hb : b < n) (hn : b ∉ l) :
    Calls Try.prog 13 #[.pointer (some ⟨p.a, 0, none⟩), .int .i64 (b : Int)] wr fun e w' => e = .returned (.bool true) ∧ OrdR w p n (l ++ [b]) w' ∧ Touch (inG p) wr w' := by
  obtain ⟨s, hG, hL, hP, hB⟩ := h
  have hk : headK (nth (List.replicate n 1) b) = true := by rw [nth_ones hb]; decide
  obtain ⟨d, _, H⟩ := F.add_yes (cfR n) s.zs l b hG.wz hL.ring hb hn ((hL.kind hb).2 hk)
  refine (H p s.m wr hG).mono ?_
  rintro e w' ⟨rfl, hG', hT⟩
  exact ⟨rfl, ⟨_, hG', hL.add hG.may hG.len hb hn hk, hP, hB.trans (hT.below hP hB.size)⟩, hT⟩
theorem ordr_add_no (F : RingFns) {w wr : World} {p : Pl} {n : Nat} {l : List Nat} (h : OrdR w p n l wr) (b : Nat) (hb : b < n) (hn : b ∈ l) :
    Calls Try.prog 13 #[.pointer (some ⟨p.a, 0, none⟩), .int .i64 (b : Int)] wr fun e w' => e = .returned (.bool false) ∧ OrdR w p n l w' ∧ Touch (inG p) wr w' := by
  obtain ⟨s, hG, hL, hP, hB⟩ := h
  obtain ⟨d, _, H⟩ := F.add_no (cfR n) s.zs l (b : Int) hG.wz hL.ring (Or.inr ⟨b, rfl, hb, Or.inr hn⟩)
  refine (H p s.m wr hG).mono ?_
  rintro e w' ⟨rfl, hG', hT⟩
  exact ⟨rfl, ⟨_, hG', hL, hP, hB.trans (hT.below hP hB.size)⟩, hT⟩
theorem ordr_cut (F : RingFns) {w wr : World} {p : Pl} {n : Nat} {o : Nat → Bool} (h : OrdR w p n (alive o 0 n) wr) (b : Nat) (hb : b < n) :
    Calls Try.prog 14 #[.pointer (some ⟨p.a, 0, none⟩), .int .i64 (b : Int)] wr fun e w' => e = .returned (.bool (!o b)) ∧ OrdR w p n (alive (cutO o b) 0 n) w' ∧ Touch (inG p) wr w' := by
  obtain ⟨s, hG, hL, hP, hB⟩ := h
  cases ho : o b with
  | false =>
    have hm : b ∈ alive o 0 n := alive_mem.2 ⟨⟨by omega, by omega⟩, ho⟩
    obtain ⟨d, _, H⟩ := F.cut_yes (cfR n) s.zs _ b hG.wz hL.ring hm
    refine (H p s.m wr hG).mono ?_
    rintro e w' ⟨rfl, hG', hT⟩
    obtain ⟨l1, l2, hs⟩ := split_of hm
    refine ⟨rfl, ⟨_, hG', ?_, hP, hB.trans (hT.below hP hB.size)⟩, hT⟩
    rw [← alive_cut, hs, filter_split (by rw [← hs]; exact hL.ring.nd)]
    exact LikeR.cut (by rw [← hs]; exact hL) hG.may hG.len
  | true =>
    have hm : b ∉ alive o 0 n := fun hm => by have := (alive_mem.1 hm).2; rw [ho] at this; cases this
    obtain ⟨d, _, H⟩ := F.cut_no (cfR n) s.zs _ (b : Int) hG.wz hL.ring (by rw [ints_has]; exact decide_eq_false hm)
    refine (H p s.m wr hG).mono ?_
    rintro e w' ⟨rfl, hG', hT⟩
    exact ⟨rfl, ⟨_, hG', by rw [cutO_same ho]; exact hL, hP, hB.trans (hT.below hP hB.size)⟩, hT⟩
theorem ordr_take (F : RingFns) {w wr : World} {p : Pl} {n b : Nat} {l : List Nat} (h : OrdR w p n (b :: l) wr) :
    Calls Try.prog 15 #[.pointer (some ⟨p.a, 0, none⟩)] wr fun e w' => e = .returned (.tuple #[.int .i64 (b : Int), .bool true]) ∧ OrdR w p n l w' ∧ Touch (inG p) wr w' := by
  obtain ⟨s, hG, hL, hP, hB⟩ := h
  obtain ⟨d, _, H⟩ := F.take_yes (cfR n) s.zs l b hG.wz hL.ring
  refine (H p s.m wr hG).mono ?_
  rintro e w' ⟨rfl, hG', hT⟩
  exact ⟨rfl, ⟨_, hG', LikeR.cut (l1 := []) hL hG.may hG.len, hP, hB.trans (hT.below hP hB.size)⟩, hT⟩
theorem ordr_take_no (F : RingFns) {w wr : World} {p : Pl} {n : Nat} (h : OrdR w p n [] wr) :
    Calls Try.prog 15 #[.pointer (some ⟨p.a, 0, none⟩)] wr fun e w' => e = .returned (.tuple #[.int .i64 0, .bool false]) ∧ OrdR w p n [] w' ∧ Touch (inG p) wr w' := by
  obtain ⟨s, hG, hL, hP, hB⟩ := h
  obtain ⟨d, _, H⟩ := F.take_no (cfR n) s.zs hG.wz hL.ring
  refine (H p s.m wr hG).mono ?_
  rintro e w' ⟨rfl, hG', hT⟩
  exact ⟨rfl, ⟨_, hG', hL, hP, hB.trans (hT.below hP hB.size)⟩, hT⟩
theorem ordr_len0 (F : RingFns) {w wr : World} {p : Pl} {n : Nat} (h : OrdR w p n [] wr) :
    Calls Try.prog 16 #[.pointer (some ⟨p.a, 0, none⟩)] wr fun e w' => e = .returned (.int .i64 0) ∧ OrdR w p n [] w' := by
  obtain ⟨s, hG, hL, hP, hB⟩ := h
  obtain ⟨d, _, H⟩ := F.len (cfR n) s.zs [] hG.wz hL.ring
  refine (H p s.m wr hG).mono ?_
  rintro e w' ⟨rfl, hG', hT⟩
  exact ⟨rfl, ⟨_, hG', hL, hP, hB.trans (hT.below hP hB.size)⟩⟩

set_option maxRecDepth 100000 in
set_option maxHeartbeats 4000000 in
theorem ringOrder_few (F : RingFns) (n : Nat) (a : Option Addr) (cap : Nat) (cs : List Int) (w : World) (h0 : 1 ≤ n) (h1 : n ≤ 60) (h2 : cs.length ≤ 100) (hr : Row w .u8 a cs) (hk : Kinds cs) :
    Calls Try.prog 4 #[.int .u8 (n : Int), .slice a cs.length cap] w fun e w' => e = .returned (.bool true) ∧ Below w.heap.size w w' := by
  have HR := Lib.hid hr
  have HK := Lib.hid hk
  have g0 : ¬ (n : Int) < 1 := by omega
  have g1 : ¬ 60 < (n : Int) := by omega
  have g2 : ¬ 100 < (cs.length : Int) := by omega
  have hmk := make_u8 n (by omega)
  have HMB := Lib.hid (make_bool n (by omega))
  clear hr hk
  go_enter Try.func4, Try.ntmps4
  go_wp2_with fail
  have hb0 : Blk (w.alloc (.cells (arrV (fun _ => .int .u8 0) n) 5)) w.heap.size (arrV (fun b => .int .u8 (if b < 0 then 1 else 0)) n) 5 := by
    have := Blk.new w (arrV (fun _ => .int .u8 0) n) 5
    simpa using this
  go_loopw [36] (fun i wr => ∃ j : Nat, j ≤ n ∧ i = .int .i64 (j : Int) ∧ Blk wr w.heap.size (arrV (fun b => .int .u8 (if b < j then 1 else 0)) n) 5 ∧ Below w.heap.size w wr) (fun i _ => n - (intOf i).toNat)
  case atStart => exact ⟨0, Nat.zero_le _, rfl, hb0, below_new w _⟩
  case round =>
    obtain ⟨j, hj, rfl, hbk, hbel⟩ := hrel
    clear hb0
    have HBk := Lib.hid hbk
    have HBe := Lib.hid hbel
    by_cases hlt : j < n
    · have cj := hbk.arr hlt
      have fj := hbk.free j
      have hz : w.heap.size < wr.heap.size := hbk.lt
      clear hbk hbel
      go_wp2_with fail
      go_roundw
      case rel =>
        refine ⟨j + 1, by omega, by go_num, ?_, HBe.out.setCell (p := ⟨w.heap.size, j, none⟩) (by simp) _⟩
        have := HBk.out.set j (.int .u8 1)
        rw [arrV_set] at this
        rw [show arrV (fun b => Value.int .u8 (if b < j + 1 then 1 else 0)) n = arrV (fun b => if b = j then Value.int .u8 1 else Value.int .u8 (if b < j then 1 else 0)) n from arrV_congr (fun i hi => by
          by_cases e : i = j
          · rw [if_pos (by omega), if_pos e]
          · rw [if_neg e]
            by_cases e2 : i < j
            · rw [if_pos e2, if_pos (by omega)]
            · rw [if_neg e2, if_neg (by omega)])]
        exact this
      case measure => simp [intOf]; omega
    · have HKr : Hid (Row wr .u8 (some ⟨w.heap.size, 0, none⟩) (List.replicate n 1)) := Lib.hid (by
        have h := hbk.arrRow
        rwa [show (List.range n).map (fun b => if b < j then (1 : Int) else 0) = List.replicate n 1 by
          apply List.ext_getElem
          · simp
          · intro i h1 h2
            have : i < n := by simpa using h1
            simp; omega] at h)
      have HKk : Hid (Kinds (List.replicate n 1)) := Lib.hid (Kinds.of (fun x hx => by rw [List.eq_of_mem_replicate hx]; omega))
      have HNl : Hid (n = (List.replicate n (1 : Int)).length) := Lib.hid (by simp)
      have hKz : w.heap.size < wr.heap.size := hbk.lt
      clear hbk hbel HBk
      go_wp2_with fail
      refine (made_any _ n n _ _ HKr.out HNl.out HKk.out h0 (by omega)).mono ?_
      rintro e w1 ⟨p, s0, rfl, hG, hM, hp, hb⟩
      have HO0 : Hid (OrdR w p n [] w1) := Lib.hid ⟨s0, hG, Made.like (c := cfR n) hM hG.may, fun k hk => Nat.le_trans HBe.out.size (hp k (Or.inr hk)), below_step HBe.out hb⟩
      clear hG hM hp hb
      go_wp2_with fail
      go_loopw [52] (fun i wr => ∃ j : Nat, j ≤ n ∧ i = .int .i64 (j : Int) ∧ OrdR w p n (List.range' 0 j) wr) (fun i _ => n - (intOf i).toNat)
      case atStart => exact ⟨0, Nat.zero_le _, rfl, HO0.out⟩
      case round =>
        obtain ⟨j, hj, rfl, hO⟩ := hrel
        have HO := Lib.hid hO
        clear hO
        by_cases hlt : j < n
        · have E : Hid (List.range' 0 j ++ [j] = List.range' 0 (j + 1)) := Lib.hid (by rw [List.range'_1_concat]; simp)
          go_wp2_with fail
          refine (ordr_add F HO.out j hlt (by rw [List.mem_range'_1]; omega)).mono ?_
          rintro e w2 ⟨rfl, hO, _⟩
          rw [E.out] at hO
          have HO2 := Lib.hid hO
          clear hO
          go_wp2_with fail
          refine (ordr_add_no F HO2.out j hlt (by rw [List.mem_range'_1]; omega)).mono ?_
          rintro e w3 ⟨rfl, hO, _⟩
          have HO3 := Lib.hid hO
          clear hO
          go_wp2_with fail
          go_roundw
          case rel => exact ⟨j + 1, by omega, by go_num, HO3.out⟩
          case measure => simp [intOf]; omega
        · have HOa : Hid (OrdR w p n (alive (fun _ => false) 0 n) wr) := Lib.hid (by rw [alive_none]; exact (show j = n by omega) ▸ HO.out)
          clear HO
          have hmb := HMB.out
          go_wp2_with fail
          have hOo : Blk (wr.alloc (.cells (arrV (fun _ => .bool false) n) 4)) wr.heap.size (arrV (fun b => .bool ((fun _ : Nat => false) b)) n) 4 := Blk.new wr (arrV (fun _ => .bool false) n) 4
          have hO1 := HOa.out.later (below_new wr (.cells (arrV (fun _ => .bool false) n) 4))
          have hQ : w.heap.size ≤ wr.heap.size := HOa.out.below.size
          have hnq : ¬ ofG p wr.heap.size := by
            obtain ⟨s, hG, _⟩ := HOa.out
            intro hx
            have := hG.ofG_lt hx
            omega
          generalize hw5 : wr.alloc _ = w5 at *
          generalize hq : wr.heap.size = q at *
          have HQ := Lib.hid hQ
          have HNq := Lib.hid hnq
          have HO1 := Lib.hid hO1
          have HOo := Lib.hid hOo
          clear hw5 hq hQ hnq hO1 hOo HOa hmb hlt hj
          go_loopw [69] (fun i wr => ∃ k : Nat, k ≤ cs.length ∧ i = .int .i64 (k : Int) ∧ ∃ o : Nat → Bool, OrdR w p n (alive o 0 n) wr ∧ Blk wr q (arrV (fun b => .bool (o b)) n) 4 ∧ (0 < k → o ((nth cs 0).toNat % n) = true)) (fun i _ => cs.length - (intOf i).toNat)
          case atStart => exact ⟨0, Nat.zero_le _, rfl, _, HO1.out, HOo.out, fun h => absurd h (by omega)⟩
          case round =>
            obtain ⟨k, hk, rfl, o, hO, hBo, hfirst⟩ := hrel
            have HO := Lib.hid hO
            have HBo := Lib.hid hBo
            have HFi := Lib.hid hfirst
            by_cases hlt : k < cs.length
            · obtain ⟨b, off, rfl, hb, hc⟩ := HR.out k hlt
              have hc' := (hO.below.cell (p := ⟨b, off + k, none⟩) hb).trans hc
              have hkk := HK.out k
              obtain ⟨x, hx⟩ : ∃ x : Nat, x = (nth cs k).toNat := ⟨_, rfl⟩
              have hxk : nth cs k = (x : Int) := by omega
              have HX0 : Hid (k = 0 → (nth cs 0).toNat = x) := Lib.hid (fun e => by rw [hx, e])
              rw [hxk] at hc' hkk
              obtain ⟨y, hy⟩ : ∃ y : Nat, y = x % n := ⟨_, rfl⟩
              have hyn : y < n := by rw [hy]; exact Nat.mod_lt _ (by omega)
              have hrem : Int.tmod (x : Int) (n : Int) = (y : Int) := by rw [hy, Int.tmod_eq_emod_of_nonneg (by omega)]; omega
              have HY := Lib.hid hy
              have cy := hBo.arr hyn
              have HBoA : Hid (∀ w', Touch (inG p) wr w' → w'.cell? ⟨q, y, none⟩ = some (.bool (o y))) := Lib.hid (fun w' h => (h.cell (p := ⟨q, y, none⟩) hBo.lt (fun h => HNq.out (Or.inr h))).trans cy)
              have hT0 : Touch (inG p) wr wr.drew := Touch.of_below (Drw.new ⟨1, rfl⟩)
              have HO' : Hid (OrdR w p n (alive o 0 n) wr.drew) := Lib.hid (hO.later (Drw.new ⟨1, rfl⟩))
              have hqz : q < wr.heap.size := hBo.lt
              clear hO hBo hfirst hc hx hxk hy
              go_wp2_with fail
              go_region_held3 (fun w' => w'.cell? ⟨q, y, none⟩ = some (.bool (o y))) (first | exact zy | exact cy) (first | (go_at_call 14; refine (ordr_cut F HO'.out y hyn).mono ?_; rintro e w6 ⟨rfl, hO6, hT6⟩; have hT6' := hT6.undrew; have zy := HBoA.out _ hT6'; have HO6 := Lib.hid hO6; have HT6 := Lib.hid hT6'; clear hO6 hT6 hT6'))
              all_goals
                have HB6 := Lib.hid (HBo.out.touch HT6.out (fun h => HNq.out (Or.inr h)))
                have hne : ((!o y) == o y) = false := by cases o y <;> rfl
                have f6 := HB6.out.free y
                have c6 := HB6.out.arr hyn
                go_wp2_with fail
                go_roundw
                case rel =>
                  refine ⟨k + 1, by omega, by go_num, cutO o y, ?_, ?_, ?_⟩
                  · obtain ⟨s, hG, hL, hP, hB⟩ := HO6.out
                    have hTq := (Touch.refl (fun i => i = q) w6).setCell (p := ⟨q, y, none⟩) (fun _ => rfl) (.bool true)
                    exact ⟨s, hG.touch hTq (fun i hi e => by subst e; exact HNq.out hi), hL, hP, hB.setCell (p := ⟨q, y, none⟩) HQ.out _⟩
                  · have := HB6.out.set y (.bool true)
                    rw [arrV_set] at this
                    rw [show arrV (fun b => Value.bool (cutO o y b)) n = arrV (fun b => if b = y then Value.bool true else Value.bool (o b)) n from arrV_congr (fun i hi => by unfold cutO; by_cases e : i = y <;> simp [e])]
                    exact this
                  · intro _
                    by_cases e : k = 0
                    · rw [HX0.out e, ← HY.out]; unfold cutO; rw [if_pos rfl]
                    · have := HFi.out (by omega)
                      unfold cutO
                      rw [this]; simp
                case measure => simp [intOf]; omega
            · have hke : k = cs.length := by omega
              rw [hke] at HFi
              clear hO hBo hfirst hke
              by_cases hcl : 0 < cs.length
              · obtain ⟨b, off, rfl, hb, hc⟩ := HR.out 0 (by omega)
                have hc' := (HO.out.below.cell (p := ⟨b, off, none⟩) hb).trans hc
                have HC0 := Lib.hid (fun (w' : World) (h : Below w.heap.size w w') => (h.cell (p := ⟨b, off, none⟩) hb).trans hc)
                have hkk := HK.out 0
                obtain ⟨x, hx⟩ : ∃ x : Nat, x = (nth cs 0).toNat := ⟨_, rfl⟩
                have hxk : nth cs 0 = (x : Int) := by omega
                have hox := HFi.out (by omega)
                rw [← hx] at hox
                rw [hxk] at hc' hkk HC0
                obtain ⟨y, hy⟩ : ∃ y : Nat, y = x % n := ⟨_, rfl⟩
                have hyn : y < n := by rw [hy]; exact Nat.mod_lt _ (by omega)
                have hrem : Int.tmod (x : Int) (n : Int) = (y : Int) := by rw [hy, Int.tmod_eq_emod_of_nonneg (by omega)]; omega
                rw [← hy] at hox
                have hyA : y ∉ alive o 0 n := fun hm => by have := (alive_mem.1 hm).2; rw [hox] at this; cases this
                have gl : ¬ (cs.length : Int) ≤ 0 := by omega
                have gl2 : 0 < (cs.length : Int) := by omega
                clear hx hxk hy hc hox
                go_wp2_with fail
                refine (ordr_add F HO.out y hyn hyA).mono ?_
                rintro e w7 ⟨rfl, hO, hT⟩
                have HO7 := Lib.hid hO
                have HB7 := Lib.hid (HBo.out.touch hT (fun h => HNq.out (Or.inr h)))
                clear hO hT hc' hyA
                go_wp2_with fail
                go_loopw [104] (fun i wr => ∃ j : Nat, j ≤ n ∧ i = .int .i64 (j : Int) ∧ OrdR w p n (alive o j (n - j) ++ [y]) wr ∧ Blk wr q (arrV (fun b => .bool (o b)) n) 4) (fun i _ => n - (intOf i).toNat)
                case atStart => exact ⟨0, Nat.zero_le _, rfl, HO7.out, HB7.out⟩
                case round =>
                  obtain ⟨j, hj, rfl, hO, hBo⟩ := hrel
                  have HO8 := Lib.hid hO
                  have HB8 := Lib.hid hBo
                  by_cases hjn : j < n
                  · have cj := hBo.arr hjn
                    have hqz := hBo.lt
                    clear hO hBo
                    cases ho : o j with
                    | true =>
                      rw [ho] at cj
                      have HO9 : Hid (OrdR w p n (alive o (j + 1) (n - (j + 1)) ++ [y]) wr) := Lib.hid (by
                        have := HO8.out
                        rwa [show n - j = (n - (j + 1)) + 1 by omega, alive_out ho] at this)
                      go_wp2_with fail
                      go_roundw
                      case rel => exact ⟨j + 1, by omega, by go_num, HO9.out, HB8.out⟩
                      case measure => simp [intOf]; omega
                    | false =>
                      rw [ho] at cj
                      have HO9 : Hid (OrdR w p n (j :: (alive o (j + 1) (n - (j + 1)) ++ [y])) wr) := Lib.hid (by
                        have := HO8.out
                        rwa [show n - j = (n - (j + 1)) + 1 by omega, alive_in ho, List.cons_append] at this)
                      go_wp2_with fail
                      refine (ordr_take F HO9.out).mono ?_
                      rintro e w9 ⟨rfl, hO, hT⟩
                      have HO10 := Lib.hid hO
                      have HB10 := Lib.hid (HB8.out.touch hT (fun h => HNq.out (Or.inr h)))
                      clear hO hT
                      go_wp2_with fail
                      go_roundw
                      case rel => exact ⟨j + 1, by omega, by go_num, HO10.out, HB10.out⟩
                      case measure => simp [intOf]; omega
                  · have HO9 : Hid (OrdR w p n [y] wr) := Lib.hid (by
                      have := HO8.out
                      rwa [show n - j = 0 by omega, show alive o j 0 = [] from rfl, List.nil_append] at this)
                    clear hO hBo
                    go_wp2_with fail
                    refine (ordr_take F HO9.out).mono ?_
                    rintro e w9 ⟨rfl, hO, _⟩
                    have HO10 := Lib.hid hO
                    clear hO
                    go_wp2_with fail
                    refine (begun9_any F _).mono ?_
                    rintro e w11 ⟨rfl, hb⟩
                    have HO11 := Lib.hid (HO10.out.later hb)
                    have c0 := HC0.out _ HO11.out.below
                    clear hb
                    go_wp2_with fail
                    refine (ordr_len0 F HO11.out).mono ?_
                    rintro e w12 ⟨rfl, hO⟩
                    have HB12 := Lib.hid hO.below
                    clear hO
                    go_wp2_with fail
                    go_ret
                    exact ⟨rfl, HB12.out⟩
              · have gl : (cs.length : Int) = 0 := by omega
                have HO7 : Hid (OrdR w p n (alive o 0 n ++ []) wr) := Lib.hid (by rw [List.append_nil]; exact HO.out)
                have HB7 := HBo
                go_wp2_with fail
                go_loopw [104] (fun i wr => ∃ j : Nat, j ≤ n ∧ i = .int .i64 (j : Int) ∧ OrdR w p n (alive o j (n - j) ++ []) wr ∧ Blk wr q (arrV (fun b => .bool (o b)) n) 4) (fun i _ => n - (intOf i).toNat)
                case atStart => exact ⟨0, Nat.zero_le _, rfl, HO7.out, HB7.out⟩
                case round =>
                  obtain ⟨j, hj, rfl, hO, hBo⟩ := hrel
                  have HO8 := Lib.hid hO
                  have HB8 := Lib.hid hBo
                  by_cases hjn : j < n
                  · have cj := hBo.arr hjn
                    have hqz := hBo.lt
                    clear hO hBo
                    cases ho : o j with
                    | true =>
                      rw [ho] at cj
                      have HO9 : Hid (OrdR w p n (alive o (j + 1) (n - (j + 1)) ++ []) wr) := Lib.hid (by
                        have := HO8.out
                        rwa [show n - j = (n - (j + 1)) + 1 by omega, alive_out ho] at this)
                      go_wp2_with fail
                      go_roundw
                      case rel => exact ⟨j + 1, by omega, by go_num, HO9.out, HB8.out⟩
                      case measure => simp [intOf]; omega
                    | false =>
                      rw [ho] at cj
                      have HO9 : Hid (OrdR w p n (j :: (alive o (j + 1) (n - (j + 1)) ++ [])) wr) := Lib.hid (by
                        have := HO8.out
                        rwa [show n - j = (n - (j + 1)) + 1 by omega, alive_in ho, List.cons_append] at this)
                      go_wp2_with fail
                      refine (ordr_take F HO9.out).mono ?_
                      rintro e w9 ⟨rfl, hO, hT⟩
                      have HO10 := Lib.hid hO
                      have HB10 := Lib.hid (HB8.out.touch hT (fun h => HNq.out (Or.inr h)))
                      clear hO hT
                      go_wp2_with fail
                      go_roundw
                      case rel => exact ⟨j + 1, by omega, by go_num, HO10.out, HB10.out⟩
                      case measure => simp [intOf]; omega
                  · have HO9 : Hid (OrdR w p n [] wr) := Lib.hid (by
                      have := HO8.out
                      rwa [show n - j = 0 by omega, show alive o j 0 = [] from rfl, List.nil_append] at this)
                    clear hO hBo
                    go_wp2_with fail
                    refine (ordr_take_no F HO9.out).mono ?_
                    rintro e w9 ⟨rfl, hO, _⟩
                    have HO10 := Lib.hid hO
                    clear hO
                    go_wp2_with fail
                    refine (begun9_any F _).mono ?_
                    rintro e w11 ⟨rfl, hb⟩
                    have HO11 := Lib.hid (HO10.out.later hb)
                    clear hb
                    go_wp2_with fail
                    refine (ordr_len0 F HO11.out).mono ?_
                    rintro e w12 ⟨rfl, hO⟩
                    have HB12 := Lib.hid hO.below
                    clear hO
                    go_wp2_with fail
                    go_ret
                    exact ⟨rfl, HB12.out⟩

set_option maxRecDepth 100000 in
theorem ringOrder_out (F : RingFns) (n : Int) (a : Option Addr) (cap len : Nat) (w : World) (h : n < 1 ∨ 60 < n ∨ 100 < len) (hm : len ≤ maxLen) :
    Calls Try.prog 4 #[.int .u8 n, .slice a len cap] w fun e w' => e = .returned (.bool true) ∧ Below w.heap.size w w' := by
  unfold maxLen at hm
  by_cases h0 : n < 1
  · clear h
    go_enter Try.func4, Try.ntmps4
    go_wp2_with fail
    refine (begun9_any F _).mono ?_
    rintro e w9 ⟨rfl, hb⟩
    go_wp2_with fail
    go_ret
    exact ⟨rfl, hb⟩
  · by_cases h1 : 60 < n
    · clear h
      go_enter Try.func4, Try.ntmps4
      go_wp2_with fail
      refine (begun9_any F _).mono ?_
      rintro e w9 ⟨rfl, hb⟩
      go_wp2_with fail
      go_ret
      exact ⟨rfl, hb⟩
    · have g2 : 100 < (len : Int) := by omega
      clear h
      go_enter Try.func4, Try.ntmps4
      go_wp2_with fail
      refine (begun9_any F _).mono ?_
      rintro e w9 ⟨rfl, hb⟩
      go_wp2_with fail
      go_ret
      exact ⟨rfl, hb⟩
theorem ringOrder_any (F : RingFns) (n : Int) (a : Option Addr) (cap : Nat) (cs : List Int) (w : World) (hn : (Lit.int .u8 n).wf = true) (hr : Row w .u8 a cs) (hm : cs.length ≤ maxLen) (hk : ∀ x ∈ cs, (Lit.int .u8 x).wf = true) :
    Calls Try.prog 4 #[.int .u8 n, .slice a cs.length cap] w fun e w' => e = .returned (.bool true) ∧ Below w.heap.size w w' := by
  have hn' : 0 ≤ n ∧ n < 256 := by simp [Lit.wf, IntKind.min, IntKind.max, IntKind.bits, IntKind.signed] at hn; omega
  by_cases h : n < 1 ∨ 60 < n ∨ 100 < cs.length
  · exact ringOrder_out F n a cap _ w h hm
  · obtain ⟨m, rfl⟩ := Int.eq_ofNat_of_zero_le hn'.1
    refine ringOrder_few F m a cap cs w (by omega) (by omega) (by omega) hr (Kinds.of (fun x hx => ?_))
    have := hk x hx
    simp [Lit.wf, IntKind.min, IntKind.max, IntKind.bits, IntKind.signed] at this
    omega

end Go.Proofs.Ytdiegmbaiibndaa.Pk
