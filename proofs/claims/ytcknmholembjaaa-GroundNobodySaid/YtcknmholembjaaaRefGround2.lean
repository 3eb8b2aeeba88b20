/-
  The document's ground: whole blocks, new ones; small configurations; the chapter's example.
-/
import Derived.Test.YtcknmholembjaaaRefGround
import Derived.Test.YtcknmholembjaaaRefPlan
import Derived.Test.YtcknmholembjaaaSame
namespace Go.Proofs.Ytcknmholembjaaa.Pk
open Go.RowKit
set_option linter.unusedVariables false
set_option linter.unusedSimpArgs false

theorem RG.S {w : World} {p : Pl} {c : Cf} {s : St} (h : RG w p c s) : w.cell? ⟨p.a, 0, none⟩ = some (.int .i64 (c.N : Int)) ∧ w.cell? ⟨p.a, 1, none⟩ = some (.int .i64 (c.W : Int)) ∧ w.cell? ⟨p.a, 2, none⟩ = some (.int .i64 (c.R : Int)) ∧ w.cell? ⟨p.a, 3, none⟩ = some (.int .i64 (c.K : Int)) ∧ w.cell? ⟨p.a, 4, none⟩ = some (.pointer (some ⟨p.s, 0, none⟩)) := ⟨h.cN, h.cW, h.cR, h.cK, h.ptr⟩

theorem wordA_row {c : Cf} {b : Int} {f : Nat} (h : wordA c b 0 = some f) {k : Nat} (hk : k < c.W) : wordA c b (k : Int) = some (f + k) := by
  unfold wordA at h ⊢
  cases hb : bel b c.N with
  | false => rw [hb] at h; cases h
  | true =>
    rw [hb, show bel (0 : Int) c.W = true from bel_mk (k := 0) (by omega)] at h
    rw [bel_mk hk]
    cases h
    simp
theorem wordA_zero {c : Cf} (hm : c.May) {b : Int} (h : wordA c b 0 = none) : bel b c.N = false := by
  have := hm.w
  cases hb : bel b c.N with
  | false => rfl
  | true => rw [wordA, hb, show bel (0 : Int) c.W = true from bel_mk (k := 0) (by omega)] at h; cases h
theorem wordA_bel {c : Cf} {b v : Int} {f : Nat} (h : wordA c b v = some f) : bel b c.N = true := by
  cases hb : bel b c.N with
  | true => rfl
  | false => rw [wordA, hb] at h; cases h

set_option maxHeartbeats 1000000 in
theorem rwipe_any (p : Pl) (c : Cf) (s : St) (b : Int) (w : World) (hG : RG w p c s) :
    Calls Try.prog 38 #[.pointer (some ⟨p.a, 0, none⟩), .int .i64 b] w fun e w' => e = .returned (.int .i64 (wipeV c b)) ∧ RG w' p c (s.wiped c b) ∧ Touch (inG p) w w' := by
  have c0 := hG.cN
  have c1 := hG.cW
  have c2 := hG.cR
  have c3 := hG.cK
  have HG := Lib.hid hG
  clear hG
  cases hk : wordA c b 0 with
  | none =>
    have hw := eqIv' (refWordAt_any c b 0 w HG.out.may) (atI_none hk)
    have HK := Lib.hid hk
    clear hk
    unfold Cf.val at hw
    have HW := Lib.hid hw
    clear hw
    go_enter Try.func38, Try.ntmps38
    go_wp2_with fail
    refine HW.out.mono ?_
    rintro e w1 ⟨rfl, hb⟩
    have HB := Lib.hid hb
    clear hb
    go_wp2_with fail
    go_ret
    refine ⟨by unfold wipeV; rw [wordA_zero HG.out.may HK.out]; rfl, ?_, Touch.of_below HB.out⟩
    rw [show s.wiped c b = s by unfold St.wiped; rw [HK.out]]
    exact HG.out.later HB.out
  | some f =>
    have hw := eqIv' (refWordAt_any c b 0 w HG.out.may) (atI_some hk)
    have HK := Lib.hid hk
    have HF : Hid (f + c.W ≤ c.size) := Lib.hid (by
      have hW := HG.out.may.w
      have := wordA_lt (wordA_row hk (k := c.W - 1) (by omega))
      omega)
    have hf0 : ¬ ((f : Int) < 0) := by omega
    clear hk
    unfold Cf.val at hw
    have HW := Lib.hid hw
    clear hw
    go_enter Try.func38, Try.ntmps38
    go_wp2_with fail
    refine HW.out.mono ?_
    rintro e w1 ⟨rfl, hb⟩
    have HG1 := Lib.hid (HG.out.later hb)
    have HT1 : Hid (Touch (inG p) w w1) := Lib.hid (Touch.of_below hb)
    clear hb c0 c1 c2 c3
    go_wp2_with fail
    go_loopw [5] (fun i wr => ∃ k : Nat, k ≤ c.W ∧ i = .int .i64 k ∧ RG wr p c (s.wipe f k) ∧ Touch (inG p) w wr) (fun i _ => c.W - (intOf i).toNat)
    case atStart => exact ⟨0, Nat.zero_le _, rfl, HG1.out, HT1.out⟩
    case round =>
      obtain ⟨k, hkW, rfl, hGk, hTk⟩ := hrel
      have hW := HG.out.may.w
      have HGk := Lib.hid hGk
      have HTk := Lib.hid hTk
      have c0 := hGk.cN
      have c1 := hGk.cW
      have c2 := hGk.cR
      have c3 := hGk.cK
      have c4 := hGk.ptr
      clear hGk hTk
      by_cases hlt : k < c.W
      · have HR : Hid (wordA c b (k : Int) = some (f + k)) := Lib.hid (wordA_row HK.out hlt)
        go_wp2_with fail
        go_region_held3 (fun w' => w'.cell? ⟨p.a, 0, none⟩ = some (.int .i64 (c.N : Int)) ∧ w'.cell? ⟨p.a, 1, none⟩ = some (.int .i64 (c.W : Int)) ∧ w'.cell? ⟨p.a, 2, none⟩ = some (.int .i64 (c.R : Int)) ∧ w'.cell? ⟨p.a, 3, none⟩ = some (.int .i64 (c.K : Int)) ∧ w'.cell? ⟨p.a, 4, none⟩ = some (.pointer (some ⟨p.s, 0, none⟩))) (first | exact HG3.out.S | exact HG2.out.S | exact HGk.out.S)
          (first | (go_at_call 35; refine (refWordAt_any c b k _ HG.out.may).mono ?_; rintro e w2 ⟨rfl, hb⟩; have HG2 := Lib.hid (HGk.out.drew.later hb); have HT2 := Lib.hid (HTk.out.trans (Touch.of_below (X := inG p) hb).undrew); clear hb) | (go_at_call 55; refine (rput_any p c (s.wipe f k) (wordA c b k) 0 _ HG2.out (fun j hj => wordA_lt hj) (by decide) (by decide)).mono ?_; rintro e w3 ⟨rfl, hS, hT⟩; have HG3 := Lib.hid hS; have HT3 := Lib.hid (HT2.out.trans hT); clear hS hT))
        go_wp2_with fail
        go_roundw
        case rel =>
          have hG := HG3.out
          rw [HR.out] at hG
          exact ⟨k + 1, by omega, by go_num, hG, HT3.out⟩
        case measure => simp [intOf]; omega
      · obtain rfl : k = c.W := by omega
        go_wp2_with fail
        go_ret
        refine ⟨by unfold wipeV; rw [wordA_bel HK.out]; rfl, ?_, HTk.out⟩
        rw [show s.wiped c b = s.wipe f c.W by unfold St.wiped; rw [HK.out]]
        exact HGk.out

/-- A new ground of the document's. -/
def NewRG (w : World) (c : Cf) (en : Ending) (w' : World) : Prop :=
  ∃ p : Pl, en = .returned (.pointer (some ⟨p.a, 0, none⟩)) ∧ RG w' p c ⟨List.replicate c.size 0, 0⟩ ∧ (∀ k, ofG p k → w.heap.size ≤ k) ∧ Below w.heap.size w w'

set_option maxHeartbeats 1000000 in
theorem rnew_any (c : Cf) (w : World) (h : c.May) : Calls Try.prog 12 #[c.val] w (NewRG w c) := by
  have HM := Lib.hid h
  have hR := h.r
  have hnw := h.nw
  have hsz := h.size
  have e0 : ((c.N * c.W : Nat) : Int) = (c.N : Int) * (c.W : Int) := Int.natCast_mul _ _
  have e1 : (c.size : Int) = 24 + (c.R : Int) + (c.N : Int) * (c.W : Int) := by unfold Cf.size; omega
  have hbw : 0 ≤ (c.N : Int) * (c.W : Int) ∧ (c.N : Int) * (c.W : Int) ≤ 4198424 := by omega
  have w1 : IntKind.i64.wrap (24 + (c.R : Int)) = 24 + (c.R : Int) := IntWalk.i64_in _ (by omega)
  have w2 : IntKind.i64.wrap ((c.N : Int) * (c.W : Int)) = (c.N : Int) * (c.W : Int) := by
    generalize (c.N : Int) * (c.W : Int) = x at hbw ⊢
    exact IntWalk.i64_in _ (by omega)
  have w3 : IntKind.i64.wrap (24 + (c.R : Int) + (c.N : Int) * (c.W : Int)) = (c.size : Int) := by
    rw [e1]
    generalize (c.N : Int) * (c.W : Int) = x at hbw ⊢
    exact IntWalk.i64_in _ (by omega)
  have HS := Lib.hid hsz
  unfold Cf.val
  clear h e0 e1 hbw hsz hnw
  go_enter Try.func12, Try.ntmps12
  go_wp2_with fail
  have hz0 : w.heap.size < (w.alloc (.cells #[.int .i64 (c.N : Int), .int .i64 (c.W : Int), .int .i64 (c.R : Int), .int .i64 (c.K : Int)] 23)).heap.size := by simp
  go_region_held3 (fun w' => w'.cell? ⟨w.heap.size, 0, none⟩ = some (.int .i64 (c.N : Int)) ∧ w'.cell? ⟨w.heap.size, 1, none⟩ = some (.int .i64 (c.W : Int)) ∧ w'.cell? ⟨w.heap.size, 2, none⟩ = some (.int .i64 (c.R : Int)) ∧ w'.cell? ⟨w.heap.size, 3, none⟩ = some (.int .i64 (c.K : Int))) (first | exact ⟨d0, d1, d2, d3⟩ | go_keep)
    (first | (go_at_call 32; refine (refNew_any c.size _ (by have := HS.out; omega)).mono ?_; rintro e w2 ⟨s, g, rfl, hS, hs, hg, hb⟩; have hBk := (Blk.new w #[.int .i64 (c.N : Int), .int .i64 (c.W : Int), .int .i64 (c.R : Int), .int .i64 (c.K : Int)] 23).drew.later hb; have d0 := hBk.cell 0 rfl; have d1 := hBk.cell 1 rfl; have d2 := hBk.cell 2 rfl; have d3 := hBk.cell 3 rfl; have HB2 := Lib.hid (below_undrew' hb); have HSt := Lib.hid hS; have Hs := Lib.hid hs; have Hg := Lib.hid hg; clear hS hs hg hb hBk))
  go_wp2_with fail
  go_ret
  refine ⟨⟨w2.heap.size, s, g⟩, rfl, ⟨Blk.new w2 _ _, HSt.out.alloc _, by simp, by have := HSt.out.head.lt; simp; omega, by have := HSt.out.body.lt; simp; omega, HM.out, WfZ.rep _⟩, ?_, ?_⟩
  · intro k hk
    have hk' : k = w2.heap.size ∨ k = s ∨ k = g := hk
    have h2 := HB2.out.size
    have h3 := Hs.out
    have h4 := Hg.out
    simp at h2 h3 h4
    omega
  · exact (below_step (below_new w _) HB2.out).alloc (by have h2 := HB2.out.size; simp at h2; omega) _

def littleB (n v r : Int) : Bool := decide (n ≤ 300 ∧ v ≤ 64 ∧ r ≤ 40)
theorem little_any (n v r k : Int) (w : World) : Calls Try.prog 10 #[.agg #[.int .i64 n, .int .i64 v, .int .i64 r, .int .i64 k]] w fun e w' => e = .returned (.bool (littleB n v r)) ∧ Below w.heap.size w w' := by
  by_cases h0 : n ≤ 300
  · by_cases h1 : v ≤ 64
    · go_enter Try.func10, Try.ntmps10
      go_wp2
      go_ret
      exact ⟨ret_bool (by unfold littleB; simp [h0, h1]), below_new w _⟩
    · have h1' : 64 < v := by omega
      go_enter Try.func10, Try.ntmps10
      go_wp2
      go_ret
      exact ⟨ret_bool (by unfold littleB; simp [h1]; try omega), below_new w _⟩
  · have h0' : 300 < n := by omega
    go_enter Try.func10, Try.ntmps10
    go_wp2
    go_ret
    exact ⟨ret_bool (by unfold littleB; simp [h0]; try omega), below_new w _⟩

end Go.Proofs.Ytcknmholembjaaa.Pk
