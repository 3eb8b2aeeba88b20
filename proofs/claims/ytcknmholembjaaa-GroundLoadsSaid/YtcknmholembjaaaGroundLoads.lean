/- GroundLoads holds: all words are laid at once and told at once, without an access; and the chapter's example holds. No condition. -/
import Derived.Test.YtcknmholembjaaaRows
import Derived.Test.YtcknmholembjaaaGroDo2
import Derived.Test.YtcknmholembjaaaGroundPlays
import Derived.Test.YtcknmholembjaaaTame
import Derived.WalkKit
import Derived.ProofKit
import Derived.OpenShut
import Derived.ChangeOld
import Derived.Carry
import Derived.Lib.SmallJoins
namespace Go.Proofs.Ytcknmholembjaaa.groundLoads
open Go.ChangeShapes Go.WideShapes Go.ChangeAt Go.RowKit Go.Joins
open Go.Proofs.Ytcknmholembjaaa.Pk
set_option linter.unusedVariables false
set_option linter.unusedSimpArgs false

theorem own : ownKnob Try.prog.godebug = none := by kernel_rfl
theorem laidOut : laidOutB Try.prog = true := by kernel_rfl

open Go.Proofs.Ytcknmholembjaaa.groundPlays (cf_of)
theorem wfz_of {zs : List Int} (h : ∀ n ∈ zs, (Lit.int .u32 n).wf = true) : WfZ zs := by
  intro k
  unfold nth
  rw [List.getD_eq_getElem?_getD]
  cases hk : zs[k]? with
  | none => simp
  | some z =>
    have := h z (List.mem_of_getElem? hk)
    simp [Lit.wf, IntKind.min, IntKind.max, IntKind.signed, IntKind.bits] at this
    simp
    omega

set_option maxRecDepth 100000 in
set_option maxHeartbeats 400000 in
theorem walk_no (n v r k at_ : Int) (a : Option Addr) (cap len : Nat) (w : World) (h : mayB n v r k = false) :
    Calls Try.prog 4 #[.agg #[.int .i64 n, .int .i64 v, .int .i64 r, .int .i64 k], .slice a len cap, .int .i64 at_] w fun e w' => e = .returned (.bool true) ∧ Below w.heap.size w w' := by
  have HM := Lib.hid h
  clear h
  go_enter Try.func4, Try.ntmps4
  go_wp2_with fail
  refine (gnew_no n v r k _ HM.out).mono ?_
  rintro e w1 ⟨rfl, hb⟩
  have hBk := (Blk.new w #[.int .i64 n, .int .i64 v, .int .i64 r, .int .i64 k] 23).later hb
  have c0 := hBk.cell 0 rfl
  have c1 := hBk.cell 1 rfl
  have c2 := hBk.cell 2 rfl
  have c3 := hBk.cell 3 rfl
  have HB := Lib.hid (below_step (below_new w _) hb)
  have hz : w.heap.size < w1.heap.size := hBk.lt
  clear hb hBk
  go_wp2_with fail
  refine (refMay_no n v r k _ HM.out).mono ?_
  rintro e w2 ⟨rfl, hb⟩
  have HB2 := Lib.hid (below_step HB.out hb)
  clear hb
  go_wp2_with fail
  refine (begun5_any _).mono ?_
  rintro e w3 ⟨rfl, hb⟩
  have HB3 := Lib.hid (below_step HB2.out hb)
  clear hb
  go_wp2_with fail
  go_ret
  exact ⟨rfl, HB3.out⟩

set_option maxRecDepth 100000 in
set_option maxHeartbeats 400000 in
theorem walk_big (c : Cf) (at_ : Int) (a : Option Addr) (cap len : Nat) (w : World) (h : c.May) (hb : littleB c.N c.W c.R = false ∨ 30000 < (len : Int)) (hm : len ≤ maxLen) :
    Calls Try.prog 4 #[c.val, .slice a len cap, .int .i64 at_] w fun e w' => e = .returned (.bool true) ∧ Below w.heap.size w w' := by
  unfold maxLen at hm
  have HM := Lib.hid h
  have HL := Lib.hid hb
  have hg := gnew_yes c (w.alloc (.cells #[.int .i64 (c.N : Int), .int .i64 (c.W : Int), .int .i64 (c.R : Int), .int .i64 (c.K : Int)] 23)) h
  unfold Cf.val at hg ⊢
  have HGN := Lib.hid hg
  clear h hb hg
  go_enter Try.func4, Try.ntmps4
  go_wp2_with fail
  refine HGN.out.mono ?_
  rintro e w1 ⟨p, rfl, hG, hp, hb⟩
  have hBk := (Blk.new w #[.int .i64 (c.N : Int), .int .i64 (c.W : Int), .int .i64 (c.R : Int), .int .i64 (c.K : Int)] 23).later hb
  have c0 := hBk.cell 0 rfl
  have c1 := hBk.cell 1 rfl
  have c2 := hBk.cell 2 rfl
  have c3 := hBk.cell 3 rfl
  have HBk := Lib.hid hBk
  have HB := Lib.hid (below_step (below_new w _) hb)
  clear hb hBk hG hp
  go_wp2_with fail
  refine (little_any _ _ _ _ _).mono ?_
  rintro e w2 ⟨rfl, hb⟩
  have HB2 := Lib.hid (below_step HB.out hb)
  clear hb
  cases hl : littleB c.N c.W c.R with
  | false =>
    go_wp2_with fail
    refine (begun5_any _).mono ?_
    rintro e w3 ⟨rfl, hb⟩
    have HB3 := Lib.hid (below_step HB2.out hb)
    clear hb
    go_wp2_with fail
    go_ret
    exact ⟨rfl, HB3.out⟩
  | true =>
    have hd200 : decide ((30000 : Int) < (len : Int)) = true := by
      have := HL.out
      rw [hl] at this
      simp at this
      simp
      omega
    go_wp2_with fail
    refine (begun5_any _).mono ?_
    rintro e w3 ⟨rfl, hb⟩
    have HB3 := Lib.hid (below_step HB2.out hb)
    clear hb
    go_wp2_with fail
    go_ret
    exact ⟨rfl, HB3.out⟩

theorem beq_no {a b : Nat} (h : a ≠ b) : ((a : Int) == (b : Int)) = false := bne_of' (by omega)

set_option maxRecDepth 100000 in
set_option maxHeartbeats 1000000 in
theorem walk_ne (c : Cf) (at_ : Int) (a : Option Addr) (cap len : Nat) (ls : List Int) (w : World) (h : c.May) (hb : littleB c.N c.W c.R = true) (hn : (len : Int) ≤ 30000) (hl : ls.length = len) (hne : len ≠ c.size) :
    Calls Try.prog 4 #[c.val, .slice a len cap, .int .i64 at_] w fun e w' => e = .returned (.bool true) ∧ Below w.heap.size w w' := by
  have HM := Lib.hid h
  have HL := Lib.hid hb
  have HN := Lib.hid hl
  have HNE := Lib.hid hne
  have hd200 : decide ((30000 : Int) < (len : Int)) = false := by simp; omega
  have hq : ((len : Int) == (c.size : Int)) = false := beq_no hne
  have hq2 : ¬ (len : Int) = (c.size : Int) := by omega
  have hq3 : ¬ len = c.size := hne
  have hq5 : ((len : Int) != (c.size : Int)) = true := by simp [bne, hq]
  have hq4 : (len == c.size) = false := by simp [hne]
  have hsz := h.size
  have hg := gnew_yes c (w.alloc (.cells #[.int .i64 (c.N : Int), .int .i64 (c.W : Int), .int .i64 (c.R : Int), .int .i64 (c.K : Int)] 23)) h
  unfold Cf.val at hg ⊢
  have HGN := Lib.hid hg
  clear h hb hg hl hne
  go_enter Try.func4, Try.ntmps4
  go_wp2_with fail
  refine HGN.out.mono ?_
  rintro e w1 ⟨p, rfl, hG, hp, hb⟩
  have hBk := (Blk.new w #[.int .i64 (c.N : Int), .int .i64 (c.W : Int), .int .i64 (c.R : Int), .int .i64 (c.K : Int)] 23).later hb
  have c0 := hBk.cell 0 rfl
  have c1 := hBk.cell 1 rfl
  have c2 := hBk.cell 2 rfl
  have c3 := hBk.cell 3 rfl
  have HG := Lib.hid hG
  have HB := Lib.hid (below_step (below_new w _) hb)
  clear hb hBk hG hp
  go_wp2_with fail
  refine (asB (little_any _ _ _ _ _) HL.out).mono ?_
  rintro e w2 ⟨rfl, hb⟩
  have HG2 := Lib.hid (HG.out.later hb)
  have HB2 := Lib.hid (below_step HB.out hb)
  clear hb c0 c1 c2 c3
  go_wp2_with fail
  refine (gwordsN p c _ _ HG2.out (n := c.size) (by simp)).mono ?_
  rintro e w3 ⟨u, rfl, hu, hu2, hb⟩
  have HG3 := Lib.hid (HG2.out.later hb)
  have HB3 := Lib.hid (below_step HB2.out hb)
  have HU := Lib.hid (blk_row' hu)
  clear hu hu2 hb
  go_wp2_with fail
  refine (gload_no p c _ ls len a cap _ HG3.out HN.out (by rw [HN.out]; exact HNE.out) (by unfold maxLen; omega)).mono ?_
  rintro e w4 ⟨rfl, rfl⟩
  go_wp2_with fail
  refine (gwordsN p c _ _ HG3.out (n := c.size) (by simp)).mono ?_
  rintro e w4 ⟨u', rfl, hu, hu2, hb⟩
  have HB4 := Lib.hid (below_step HB3.out hb)
  have HU4 := Lib.hid (HU.out.later hb)
  have HV4 := Lib.hid (blk_row' hu)
  clear hu hu2 hb
  go_wp2_with fail
  refine (same_yes _ _ _ c.size _ _ _ (by simp) HV4.out HU4.out (by unfold maxLen; omega)).mono ?_
  rintro e w5 ⟨rfl, hd⟩
  have HB5 := Lib.hid (below_step HB4.out hd.new)
  clear hd
  go_wp2_with fail
  refine (begun5_any _).mono ?_
  rintro e w6 ⟨rfl, hb⟩
  have HB6 := Lib.hid (below_step HB5.out hb)
  clear hb
  go_wp2_with fail
  go_ret
  exact ⟨rfl, HB6.out⟩

/-- Up to the last test. -/
def LastAt (w : World) (p : Pl) (c : Cf) (ls : List Int) (wx : World) : Prop := G wx p c ⟨ls, 0⟩ ∧ Below w.heap.size w wx ∧ ∀ k, ofG p k → w.heap.size ≤ k

set_option maxRecDepth 100000 in
set_option maxHeartbeats 2000000 in
theorem walk_eq (c : Cf) (at_ : Int) (a : Option Addr) (cap len : Nat) (ls : List Int) (w : World) (h : c.May) (hb : littleB c.N c.W c.R = true) (hn : (len : Int) ≤ 30000) (hl : ls.length = len) (hne : len = c.size) (hrow : Row w .u32 a ls) (hw : WfZ ls) :
    Calls Try.prog 4 #[c.val, .slice a len cap, .int .i64 at_] w fun e w' => e = .returned (.bool true) ∧ Below w.heap.size w w' := by
  have HM := Lib.hid h
  have HL := Lib.hid hb
  have HN := Lib.hid hl
  have HW := Lib.hid hw
  have HR := Lib.hid hrow
  subst hne
  have hd200 : decide ((30000 : Int) < (c.size : Int)) = false := by simp; omega
  have hsz := h.size
  have hg := gnew_yes c (w.alloc (.cells #[.int .i64 (c.N : Int), .int .i64 (c.W : Int), .int .i64 (c.R : Int), .int .i64 (c.K : Int)] 23)) h
  unfold Cf.val at hg ⊢
  have HGN := Lib.hid hg
  clear h hb hg hl hw hrow
  go_enter Try.func4, Try.ntmps4
  go_wp2_with fail
  refine HGN.out.mono ?_
  rintro e w1 ⟨p, rfl, hG, hp, hb⟩
  have hBk := (Blk.new w #[.int .i64 (c.N : Int), .int .i64 (c.W : Int), .int .i64 (c.R : Int), .int .i64 (c.K : Int)] 23).later hb
  have c0 := hBk.cell 0 rfl
  have c1 := hBk.cell 1 rfl
  have c2 := hBk.cell 2 rfl
  have c3 := hBk.cell 3 rfl
  have HG := Lib.hid hG
  have HP := Lib.hid (fun k hk => Nat.le_trans (below_new w _).size (hp k hk))
  have HB := Lib.hid (below_step (below_new w _) hb)
  clear hb hBk hG hp
  go_wp2_with fail
  refine (asB (little_any _ _ _ _ _) HL.out).mono ?_
  rintro e w2 ⟨rfl, hb⟩
  have HG2 := Lib.hid (HG.out.later hb)
  have HB2 := Lib.hid (below_step HB.out hb)
  clear hb c0 c1 c2 c3
  go_wp2_with fail
  refine (gwordsN p c _ _ HG2.out (n := c.size) (by simp)).mono ?_
  rintro e w3 ⟨u, rfl, hu, hu2, hb⟩
  have HG3 := Lib.hid (HG2.out.later hb)
  have HB3 := Lib.hid (below_step HB2.out hb)
  clear hu hu2 hb
  go_wp2_with fail
  refine (gload_yes p c _ ls c.size a cap _ HG3.out HN.out rfl (HR.out.later HB3.out) HW.out).mono ?_
  rintro e w4 ⟨rfl, hG, hT⟩
  have HG4 : Hid (G w4 p c ⟨ls, 0⟩) := Lib.hid hG
  have HB4 := Lib.hid (HB3.out.trans (hT.below (B := w.heap.size) (fun k hk => HP.out k (.inr hk)) HB3.out.size))
  clear hG hT
  go_wp2_with fail
  refine (gwordsN p c _ _ HG4.out HN.out).mono ?_
  rintro e w5 ⟨u', rfl, hu, hu2, hb⟩
  have HG5 := Lib.hid (HG4.out.later hb)
  have HB5 := Lib.hid (below_step HB4.out hb)
  have HV5 := Lib.hid (blk_row' hu)
  clear hu hu2 hb
  go_wp2_with fail
  refine (same_yes ls _ _ c.size _ _ _ HN.out HV5.out (HR.out.later HB5.out) (by unfold maxLen; omega)).mono ?_
  rintro e w6 ⟨rfl, hd⟩
  have HG6 := Lib.hid (HG5.out.later hd.new)
  have HB6 := Lib.hid (below_step HB5.out hd.new)
  clear hd
  go_wp2_with fail
  refine (eqIu (gmeter_any p c _ _ HG6.out) u64m_zero).mono ?_
  rintro e w7 ⟨rfl, rfl⟩
  go_wp2_with fail
  by_cases a0 : at_ < 0
  · have d0 : decide (at_ < 0) = true := by simp [a0]
    refine wp_region_tame_all [Fact.is (.bool true), Fact.is (.bool true), Fact.is (.int .i64 at_), Fact.is (.bool true), Fact.is (.bool true), Fact.is undef, Fact.is undef, Fact.is (.bool true), Fact.is (.bool true), Fact.is undef, Fact.is undef, Fact.is undef, Fact.is undef, Fact.is undef, Fact.is undef, Fact.is undef, Fact.is undef, Fact.is undef, Fact.is (.bool true), Fact.is (.bool true), Fact.is (.bool true)] (by kernel_rfl) (by kernel_rfl) rfl (by kernel_rfl) (fun ops K2 hops hK => ?_)
    refine walkT_is (wantedN rfl) (fun w' hC hd => tame_0   (fun ρ hρ hf  => upon_call_below (f := 9) (by go_simp) (begun5_any w'))) (by go_frame; rfl) (by simp only [List.nil_append, List.cons_append]; rfl) ?_
    refine walkT_is (wantedN rfl) (fun w' hC hd => tame_move _ (.inl rfl) rfl) (by go_frame; rfl) (by simp only [List.nil_append, List.cons_append]; rfl) ?_
    refine walkT_is (wantedT hops rfl rfl rfl rfl) (fun w' hC hd => tame_move _ (.inl rfl) rfl) (by go_frame; rfl) (by simp only [List.nil_append, List.cons_append]; rfl) ?_
    refine walkT_is (wantedT hops rfl rfl rfl rfl) (fun w' hC hd => tame_1 75 (.int .i64 at_) rfl (fun ρ hρ hf e0 => upon_is (by have hb0 := d0; go_simp))) (by go_frame; rfl) (by simp only [List.nil_append, List.cons_append]; rfl) ?_
    refine walkT_is (wantedT hops rfl rfl rfl rfl) (fun w' hC hd => tame_move _ (.inl rfl) rfl) (by go_frame; rfl) (by simp only [List.nil_append, List.cons_append]; rfl) ?_
    refine walkT_skip (wantedF hops rfl rfl rfl rfl) (by go_frame; rfl) (by simp only [List.nil_append, List.cons_append]; rfl) ?_
    refine walkT_skip (wantedF hops rfl rfl rfl rfl) (by go_frame; rfl) (by simp only [List.nil_append, List.cons_append]; rfl) ?_
    refine walkT_is (wantedT hops rfl rfl rfl rfl) (fun w' hC hd => tame_pick _ _ _ true rfl rfl rfl) (by go_frame; rfl) (by simp only [List.nil_append, List.cons_append]; rfl) ?_
    refine walkT_is (wantedT hops rfl rfl rfl rfl) (fun w' hC hd => tame_move _ (.inl rfl) rfl) (by go_frame; rfl) (by simp only [List.nil_append, List.cons_append]; rfl) ?_
    refine walkT_skip (wantedF hops rfl rfl rfl rfl) (by go_frame; rfl) (by simp only [List.nil_append, List.cons_append]; rfl) ?_
    refine walkT_skip (wantedF hops rfl rfl rfl rfl) (by go_frame; rfl) (by simp only [List.nil_append, List.cons_append]; rfl) ?_
    refine walkT_skip (wantedF hops rfl rfl rfl rfl) (by go_frame; rfl) (by simp only [List.nil_append, List.cons_append]; rfl) ?_
    refine walkT_skip (wantedF hops rfl rfl rfl rfl) (by go_frame; rfl) (by simp only [List.nil_append, List.cons_append]; rfl) ?_
    refine walkT_skip (wantedF hops rfl rfl rfl rfl) (by go_frame; rfl) (by simp only [List.nil_append, List.cons_append]; rfl) ?_
    refine walkT_skip (wantedF hops rfl rfl rfl rfl) (by go_frame; rfl) (by simp only [List.nil_append, List.cons_append]; rfl) ?_
    refine walkT_skip (wantedF hops rfl rfl rfl rfl) (by go_frame; rfl) (by simp only [List.nil_append, List.cons_append]; rfl) ?_
    refine walkT_skip (wantedF hops rfl rfl rfl rfl) (by go_frame; rfl) (by simp only [List.nil_append, List.cons_append]; rfl) ?_
    refine walkT_skip (wantedF hops rfl rfl rfl rfl) (by go_frame; rfl) (by simp only [List.nil_append, List.cons_append]; rfl) ?_
    refine walkT_is (wantedT hops rfl rfl rfl rfl) (fun w' hC hd => tame_pick _ _ _ true rfl rfl rfl) (by go_frame; rfl) (by simp only [List.nil_append, List.cons_append]; rfl) ?_
    refine walkT_is (wantedN rfl) (fun w' hC hd => tame_pick _ _ _ true rfl rfl rfl) (by go_frame; rfl) (by simp only [List.nil_append, List.cons_append]; rfl) ?_
    refine walkT_is (wantedN rfl) (fun w' hC hd => tame_move _ (.inr rfl) rfl) (by go_frame; rfl) (by simp only [List.nil_append, List.cons_append]; rfl) ?_
    refine walkT_nil fun w8 hC8 _ => hK _ _ ?_
    have HB8 := Lib.hid (below_step HB6.out hC8)
    clear hC8
    go_wp2_with fail
    go_ret
    exact ⟨rfl, HB8.out⟩
  · have d0 : decide (at_ < 0) = false := by simp; omega
    by_cases a1 : 24 ≤ at_
    · have d1 : decide (24 ≤ at_) = true := by simp [a1]
      refine wp_region_tame_all [Fact.is (.bool true), Fact.is (.bool true), Fact.is (.int .i64 at_), Fact.is (.bool false), Fact.is (.bool false), Fact.is (.int .i64 at_), Fact.is (.bool true), Fact.is (.bool true), Fact.is (.bool true), Fact.is undef, Fact.is undef, Fact.is undef, Fact.is undef, Fact.is undef, Fact.is undef, Fact.is undef, Fact.is undef, Fact.is undef, Fact.is (.bool true), Fact.is (.bool true), Fact.is (.bool true)] (by kernel_rfl) (by kernel_rfl) rfl (by kernel_rfl) (fun ops K2 hops hK => ?_)
      refine walkT_is (wantedN rfl) (fun w' hC hd => tame_0   (fun ρ hρ hf  => upon_call_below (f := 9) (by go_simp) (begun5_any w'))) (by go_frame; rfl) (by simp only [List.nil_append, List.cons_append]; rfl) ?_
      refine walkT_is (wantedN rfl) (fun w' hC hd => tame_move _ (.inl rfl) rfl) (by go_frame; rfl) (by simp only [List.nil_append, List.cons_append]; rfl) ?_
      refine walkT_is (wantedT hops rfl rfl rfl rfl) (fun w' hC hd => tame_move _ (.inl rfl) rfl) (by go_frame; rfl) (by simp only [List.nil_append, List.cons_append]; rfl) ?_
      refine walkT_is (wantedT hops rfl rfl rfl rfl) (fun w' hC hd => tame_1 75 (.int .i64 at_) rfl (fun ρ hρ hf e0 => upon_is (by have hb0 := d0; go_simp))) (by go_frame; rfl) (by simp only [List.nil_append, List.cons_append]; rfl) ?_
      refine walkT_is (wantedT hops rfl rfl rfl rfl) (fun w' hC hd => tame_move _ (.inl rfl) rfl) (by go_frame; rfl) (by simp only [List.nil_append, List.cons_append]; rfl) ?_
      refine walkT_is (wantedT hops rfl rfl rfl rfl) (fun w' hC hd => tame_move _ (.inl rfl) rfl) (by go_frame; rfl) (by simp only [List.nil_append, List.cons_append]; rfl) ?_
      refine walkT_is (wantedT hops rfl rfl rfl rfl) (fun w' hC hd => tame_1 78 (.int .i64 at_) rfl (fun ρ hρ hf e0 => upon_is (by have hb0 := d1; go_simp))) (by go_frame; rfl) (by simp only [List.nil_append, List.cons_append]; rfl) ?_
      refine walkT_is (wantedT hops rfl rfl rfl rfl) (fun w' hC hd => tame_pick _ _ _ false rfl rfl rfl) (by go_frame; rfl) (by simp only [List.nil_append, List.cons_append]; rfl) ?_
      refine walkT_is (wantedT hops rfl rfl rfl rfl) (fun w' hC hd => tame_move _ (.inl rfl) rfl) (by go_frame; rfl) (by simp only [List.nil_append, List.cons_append]; rfl) ?_
      refine walkT_skip (wantedF hops rfl rfl rfl rfl) (by go_frame; rfl) (by simp only [List.nil_append, List.cons_append]; rfl) ?_
      refine walkT_skip (wantedF hops rfl rfl rfl rfl) (by go_frame; rfl) (by simp only [List.nil_append, List.cons_append]; rfl) ?_
      refine walkT_skip (wantedF hops rfl rfl rfl rfl) (by go_frame; rfl) (by simp only [List.nil_append, List.cons_append]; rfl) ?_
      refine walkT_skip (wantedF hops rfl rfl rfl rfl) (by go_frame; rfl) (by simp only [List.nil_append, List.cons_append]; rfl) ?_
      refine walkT_skip (wantedF hops rfl rfl rfl rfl) (by go_frame; rfl) (by simp only [List.nil_append, List.cons_append]; rfl) ?_
      refine walkT_skip (wantedF hops rfl rfl rfl rfl) (by go_frame; rfl) (by simp only [List.nil_append, List.cons_append]; rfl) ?_
      refine walkT_skip (wantedF hops rfl rfl rfl rfl) (by go_frame; rfl) (by simp only [List.nil_append, List.cons_append]; rfl) ?_
      refine walkT_skip (wantedF hops rfl rfl rfl rfl) (by go_frame; rfl) (by simp only [List.nil_append, List.cons_append]; rfl) ?_
      refine walkT_skip (wantedF hops rfl rfl rfl rfl) (by go_frame; rfl) (by simp only [List.nil_append, List.cons_append]; rfl) ?_
      refine walkT_is (wantedT hops rfl rfl rfl rfl) (fun w' hC hd => tame_pick _ _ _ true rfl rfl rfl) (by go_frame; rfl) (by simp only [List.nil_append, List.cons_append]; rfl) ?_
      refine walkT_is (wantedN rfl) (fun w' hC hd => tame_pick _ _ _ true rfl rfl rfl) (by go_frame; rfl) (by simp only [List.nil_append, List.cons_append]; rfl) ?_
      refine walkT_is (wantedN rfl) (fun w' hC hd => tame_move _ (.inr rfl) rfl) (by go_frame; rfl) (by simp only [List.nil_append, List.cons_append]; rfl) ?_
      refine walkT_nil fun w8 hC8 _ => hK _ _ ?_
      have HB8 := Lib.hid (below_step HB6.out hC8)
      clear hC8
      go_wp2_with fail
      go_ret
      exact ⟨rfl, HB8.out⟩
    · have d1 : decide (24 ≤ at_) = false := by simp; omega
      obtain ⟨j, rfl⟩ := Int.eq_ofNat_of_zero_le (show 0 ≤ at_ by omega)
      have hj : j < ls.length := by rw [HN.out]; omega
      obtain ⟨b, off, rfl, hb0, hc⟩ := HR.out j hj
      have i0 : (0 : Int) ≤ (j : Int) := by omega
      have i1 : (j : Int) < (c.size : Int) := by omega
      have hc6 := (HB6.out.cell (p := ⟨b, off + j, none⟩) hb0).trans hc
      have HC := Lib.hid hc
      have Hb0 := Lib.hid hb0
      have hwr : IntKind.i64.wrap (nth ls j) = nth ls j := by have := HW.out j; exact IntWalk.i64_in _ (by omega)
      have hra : regA (j : Int) = some j := by unfold regA; rw [bel_mk (show j < 24 by omega)]; simp
      have HRg : Hid (∀ w, G w p c ⟨ls, 0⟩ → Calls Try.prog 18 #[.pointer (some ⟨p.a, 0, none⟩), .int .i64 (j : Int)] w (GP w p c (St.ask ⟨ls, 0⟩ (some j)) (.int .i64 (nth ls j)))) := Lib.hid fun w hG => by
        have := reg_any p c ⟨ls, 0⟩ j w hG
        rw [hra] at this
        exact this
      clear hc hra hb0 a0 a1
      go_region_held3 (fun w' => w'.cell? ⟨b, off + j, none⟩ = some (.int .u32 (nth ls j))) (first | exact (HB9.out.cell (p := ⟨b, off + j, none⟩) Hb0.out).trans HC.out | exact (HB8.out.cell (p := ⟨b, off + j, none⟩) Hb0.out).trans HC.out | exact hc6 | go_keep)
        (first | (go_at_call 9; refine (begun5_any _).mono ?_; rintro e w8 ⟨rfl, hb⟩; have HG8 := Lib.hid (HG6.out.drew.later hb); have HB8 := Lib.hid (below_step HB6.out (below_undrew' hb)); clear hb) | (go_at_call 18; refine (HRg.out _ HG8.out).mono ?_; rintro e w9 ⟨rfl, hG, hT⟩; have HB9 := Lib.hid (HB8.out.trans (hT.below (B := w.heap.size) (fun k hk => HP.out k (.inr hk)) HB8.out.size)); clear hG hT))
      go_wp2_with fail
      go_ret
      exact ⟨rfl, HB9.out⟩

theorem walk (n v r k : Int) (a : Option Addr) (cap : Nat) (ls : List Int) (at_ : Int) (w : World) (hn : (Lit.int .i64 n).wf = true) (hv : (Lit.int .i64 v).wf = true) (hr : (Lit.int .i64 r).wf = true) (hk : (Lit.int .i64 k).wf = true) (hrow : Row w .u32 a ls) (hm : ls.length ≤ maxLen) (hwf : ∀ n ∈ ls, (Lit.int .u32 n).wf = true) (hat : (Lit.int .i64 at_).wf = true) :
    Calls Try.prog 4 #[.agg #[.int .i64 n, .int .i64 v, .int .i64 r, .int .i64 k], .slice a ls.length cap, .int .i64 at_] w fun e w' => e = .returned (.bool true) ∧ Below w.heap.size w w' := by
  cases h : mayB n v r k with
  | false => exact walk_no n v r k at_ a cap _ w h
  | true =>
    obtain ⟨c, hc, rfl, rfl, rfl, rfl⟩ := cf_of h
    cases hb : littleB c.N c.W c.R with
    | false => exact walk_big c at_ a cap _ w hc (.inl hb) hm
    | true =>
      by_cases hl : 30000 < (ls.length : Int)
      · exact walk_big c at_ a cap _ w hc (.inr hl) hm
      · by_cases he : ls.length = c.size
        · exact walk_eq c at_ a cap _ ls w hc hb (by omega) rfl he hrow (wfz_of hwf)
        · exact walk_ne c at_ a cap _ ls w hc hb (by omega) rfl he

/-! ### The row -/
set_option maxRecDepth 100000 in
theorem lifted (os : Os) (started : os.Started) (H : Type) (enc : TypeId × Value → H) :
    ReturnsInHanded {} Try.checked os 4 .any (Rows.groundLoadsSpec.pre6 enc Try.prog Try.f4 Rows.groundLoadsRow.domain false) (Rows.groundLoadsSpec.post enc Try.prog Try.f4 false true false false) := by
  refine returnsInHanded_of_change (C := Try.checked) own started (by kernel_rfl) Try.func4
    (ChangeSpec.witness6 (enc := enc) (C := Try.checked) false ⟨#[], #[.agg #[.int .i64 0, .int .i64 0, .int .i64 0, .int .i64 0], .slice none 0 0, .int .i64 0], []⟩ 8 (by kernel_rfl) (by kernel_rfl) (by kernel_rfl) (by kernel_rfl)) ?_
  intro W base args ds gs before hval0 hW hcnd _
  have hval : ∀ (j : Nat) t v, Try.f4.params[j]? = some t → args[j]? = some v → Value.okWide Try.prog W .any base t v := hval0
  have hW' := hW
  obtain ⟨p, q, hA0, hV, rfl, hfz, hnd⟩ := hW
  have hA : DataW.TrodAll enc Try.prog W 0 (fun _ => true) true Try.f4.params.toList args.toList ds p := hA0
  rw [Try.params4] at hA hval
  obtain ⟨v0, vs0, d0, ds0, p0, q0, hargs, rfl, rfl, h0, r0⟩ := trodAll_cons hA
  obtain ⟨v1, vs1, d1, ds1, p1, q1, rfl, rfl, rfl, h1, r1⟩ := trodAll_cons r0
  obtain ⟨v2, vs2, d2, ds2, p2, q2, rfl, rfl, rfl, h2, r2⟩ := trodAll_cons r1
  obtain ⟨rfl, rfl, rfl⟩ := trodAll_nil r2
  obtain rfl : args = #[v0, v1, v2] := by cases args; simp_all
  obtain ⟨rfl, rfl⟩ := trodVars_none hV
  have k0 := h0
  have lt0 : ∀ x ∈ p0, x.block < W.heap.size := by obtain ⟨m, hm⟩ := k0; exact DataW.trod_lt m _ _ _ hm
  obtain ⟨c00, c01, c02, c03, y00, y01, y02, y03, m0, rfl, hd0, hp0, hy00, hy01, hy02, hy03⟩ := open_agg4 Try.underlying23 (by kernel_rfl) (by kernel_rfl) (hval 0 23 v0 rfl rfl) h0
  obtain ⟨a00, e00, hdd00, w00⟩ := DataW.trod_int Try.underlying3 hy00
  obtain ⟨a01, e01, hdd01, w01⟩ := DataW.trod_int Try.underlying3 hy01
  obtain ⟨a02, e02, hdd02, w02⟩ := DataW.trod_int Try.underlying3 hy02
  obtain ⟨a03, e03, hdd03, w03⟩ := DataW.trod_int Try.underlying3 hy03
  simp at e00 e01 e02 e03
  subst e00 e01 e02 e03
  have k1 := h1
  have lt1 : ∀ x ∈ p1, x.block < W.heap.size := by obtain ⟨m, hm⟩ := k1; exact DataW.trod_lt m _ _ _ hm
  obtain ⟨a1, len1, cap1, rfl⟩ := okWide_slice Try.underlying39 (hval 1 39 v1 rfl rfl)
  obtain ⟨z1, hl1, ro1, f1, m1⟩ : ∃ zs : List Int, len1 = zs.length ∧ Row W .u32 a1 zs ∧ (∀ n ∈ zs, (Lit.int .u32 n).wf = true) ∧ len1 ≤ maxLen := by
    obtain ⟨fuel, hf⟩ := h1
    rcases open_ints Try.underlying39 Try.underlying50 (by kernel_rfl) hf with ⟨hcs, _⟩ | ⟨x, l, c, zs, hcs, _, hl, hm, hz, _, hcell, hwz⟩
    · simp [Value.cells] at hcs
      obtain ⟨rfl, rfl, rfl⟩ := hcs
      exact ⟨[], rfl, Row.nil _ _ _, (fun n h => by simp at h), Nat.zero_le _⟩
    · simp [Value.cells] at hcs
      obtain ⟨rfl, rfl, rfl⟩ := hcs
      exact row_open hl hm (by simpa using hz) hcell hwz
  subst hl1
  have k2 := h2
  have lt2 : ∀ x ∈ p2, x.block < W.heap.size := by obtain ⟨m, hm⟩ := k2; exact DataW.trod_lt m _ _ _ hm
  obtain ⟨a2, rfl, hd2, hp2, w2⟩ := open_int Try.underlying3 (hval 2 3 v2 rfl rfl) h2
  clear hA0 hval0
  refine (walk a00 a01 a02 a03 a1 cap1 z1 a2 W w00 w01 w02 w03 ro1 m1 f1 w2).mono fun e W' ⟨he, bel⟩ => ?_
  subst he
  exact ⟨_, rfl, _, _, _, [], _, [], hW', trodAll_mk1 (shut_bool Try.underlying4 _), (trodAll_cons_mk (Below.trod laidOut (by kernel_rfl) (of_decide_eq_true (by kernel_rfl)) k0 bel lt0) (trodAll_cons_mk (Below.trod laidOut (by kernel_rfl) (of_decide_eq_true (by kernel_rfl)) k1 bel lt1) (trodAll_cons_mk (Below.trod laidOut (by kernel_rfl) (of_decide_eq_true (by kernel_rfl)) k2 bel lt2) trodAll_mk0))), rfl, bel.frame _, fun h => by cases h⟩

theorem over : Rows.groundLoadsRow.holds Try.pinned (OpenSpec.ofChange Rows.groundLoadsSpec) :=
  OpenClaim.holds_of_wide 4 Try.f4 rfl rfl rfl rfl rfl rfl rfl ⟨rfl, rfl, rfl, rfl, rfl⟩ rfl rfl rfl rfl rfl (by kernel_rfl) Try.func4 (by kernel_rfl)
    (of_decide_eq_true (by kernel_rfl)) (by unfold Func.isWrapper; first | (rw [if_pos (by decide +kernel)]; kernel_rfl) | (rw [if_neg (by decide +kernel)]; exact ⟨rfl, rfl⟩))
    (fun os started H enc _ => lifted os started H enc)

theorem proved : Rows.GroundLoadsSaid := over
#print axioms proved
end Go.Proofs.Ytcknmholembjaaa.groundLoads
