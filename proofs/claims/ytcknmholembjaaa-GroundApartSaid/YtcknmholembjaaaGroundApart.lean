/- GroundApart holds: no two places of a ground are one; and the chapter's example holds. No condition. -/
import Derived.Test.YtcknmholembjaaaRows
import Derived.Test.YtcknmholembjaaaGroPlace
import Derived.Test.YtcknmholembjaaaGroundPlays
import Derived.Deep.DeepCutAuto
import Derived.LoopTactic
import Derived.WalkKit
import Derived.ProofKit
import Derived.OpenShut
import Derived.ChangeOld
import Derived.Carry
import Derived.Lib.SmallJoins
namespace Go.Proofs.Ytcknmholembjaaa.groundApart
open Go.ChangeShapes Go.WideShapes Go.ChangeAt Go.RowKit Go.Joins
open Go.Proofs.Ytcknmholembjaaa.Pk
set_option linter.unusedVariables false
set_option linter.unusedSimpArgs false

theorem own : ownKnob Try.prog.godebug = none := by kernel_rfl
theorem laidOut : laidOutB Try.prog = true := by kernel_rfl

open Go.Proofs.Ytcknmholembjaaa.groundPlays (cf_of)

set_option maxRecDepth 100000 in
set_option maxHeartbeats 400000 in
theorem walk_no (n v r k kp ip vp kq iq vq : Int) (w : World) (h : mayB n v r k = false) :
    Calls Try.prog 5 #[.agg #[.int .i64 n, .int .i64 v, .int .i64 r, .int .i64 k], .agg #[.int .u8 kp, .int .i64 ip, .int .i64 vp], .agg #[.int .u8 kq, .int .i64 iq, .int .i64 vq]] w fun e w' => e = .returned (.bool true) ∧ Below w.heap.size w w' := by
  have HM := Lib.hid h
  clear h
  go_enter Try.func5, Try.ntmps5
  go_wp2_with fail
  refine (gnew_no n v r k _ HM.out).mono ?_
  rintro e w1 ⟨rfl, hb⟩
  have hBk := (((Blk.new w #[.int .i64 n, .int .i64 v, .int .i64 r, .int .i64 k] 23).alloc (.cells #[.int .u8 kp, .int .i64 ip, .int .i64 vp] 53)).alloc (.cells #[.int .u8 kq, .int .i64 iq, .int .i64 vq] 53)).later hb
  have c0 := hBk.cell 0 rfl
  have c1 := hBk.cell 1 rfl
  have c2 := hBk.cell 2 rfl
  have c3 := hBk.cell 3 rfl
  have HB := Lib.hid ((((below_new w _).alloc (by simp) _).alloc (by simp; omega) _).trans (hb.mono (by simp; omega)))
  have hz : w.heap.size < w1.heap.size := hBk.lt
  clear hb hBk
  go_wp2_with fail
  refine (refMay_no n v r k _ HM.out).mono ?_
  rintro e w2 ⟨rfl, hb⟩
  have HB2 := Lib.hid (below_step HB.out hb)
  clear hb
  go_wp2_with fail
  refine (begun5_any _).mono ?_
  rintro e w3 ⟨rfl, hb⟩
  have HB3 := Lib.hid (below_step HB2.out hb)
  clear hb
  go_wp2_with fail
  go_ret
  exact ⟨rfl, HB3.out⟩

/-- Both places' boxes beside the ground. -/
structure EA (w0 w : World) (b1 b2 : Nat) (p : Pl) (c : Cf) (s : St) (kp ip vp kq iq vq : Int) : Prop where
  gd : G w p c s
  x1 : Blk w b1 #[.int .u8 kp, .int .i64 ip, .int .i64 vp] 53
  x2 : Blk w b2 #[.int .u8 kq, .int .i64 iq, .int .i64 vq] 53
  o1 : ¬ ofG p b1
  o2 : ¬ ofG p b2
  ne : b1 ≠ b2
  r1 : w0.heap.size ≤ b1
  r2 : w0.heap.size ≤ b2
  rp : ∀ k, ofG p k → w0.heap.size ≤ k
  bel : Below w0.heap.size w0 w
theorem EA.later {w0 w w' : World} {b1 b2 : Nat} {p : Pl} {c : Cf} {s : St} {kp ip vp kq iq vq : Int} (h : EA w0 w b1 b2 p c s kp ip vp kq iq vq) (k : Below w.heap.size w w') : EA w0 w' b1 b2 p c s kp ip vp kq iq vq :=
  ⟨h.gd.later k, h.x1.later k, h.x2.later k, h.o1, h.o2, h.ne, h.r1, h.r2, h.rp, below_step h.bel k⟩
theorem EA.step {w0 w w' : World} {b1 b2 : Nat} {p : Pl} {c : Cf} {s s' : St} {kp ip vp kq iq vq : Int} (h : EA w0 w b1 b2 p c s kp ip vp kq iq vq) (hG : G w' p c s') (hT : Pk.Touch (inG p) w w') : EA w0 w' b1 b2 p c s' kp ip vp kq iq vq :=
  ⟨hG, h.x1.touch hT fun hx => h.o1 (.inr hx), h.x2.touch hT fun hx => h.o2 (.inr hx), h.o1, h.o2, h.ne, h.r1, h.r2, h.rp, h.bel.trans (hT.below (B := w0.heap.size) (fun k hk => h.rp k (.inr hk)) h.bel.size)⟩
theorem EA.set1 {w0 w : World} {b1 b2 : Nat} {p : Pl} {c : Cf} {s : St} {kp ip vp kq iq vq : Int} (h : EA w0 w b1 b2 p c s kp ip vp kq iq vq) (v : Int) : EA w0 (w.setCell ⟨b1, 2, none⟩ (.int .i64 v)) b1 b2 p c s kp ip v kq iq vq :=
  ⟨h.gd.touch (X := fun k => k = b1) ((Touch.refl (fun k => k = b1) w).setCell (p := ⟨b1, 2, none⟩) (fun _ => rfl) _) (fun k hk e => h.o1 (e ▸ hk)), h.x1.put 2 _ rfl, h.x2.other (p := ⟨b1, 2, none⟩) h.ne _, h.o1, h.o2, h.ne, h.r1, h.r2, h.rp, h.bel.setCell h.r1 _⟩
theorem EA.set2 {w0 w : World} {b1 b2 : Nat} {p : Pl} {c : Cf} {s : St} {kp ip vp kq iq vq : Int} (h : EA w0 w b1 b2 p c s kp ip vp kq iq vq) (v : Int) : EA w0 (w.setCell ⟨b2, 2, none⟩ (.int .i64 v)) b1 b2 p c s kp ip vp kq iq v :=
  ⟨h.gd.touch (X := fun k => k = b2) ((Touch.refl (fun k => k = b2) w).setCell (p := ⟨b2, 2, none⟩) (fun _ => rfl) _) (fun k hk e => h.o2 (e ▸ hk)), h.x1.other (p := ⟨b2, 2, none⟩) (Ne.symm h.ne) _, h.x2.put 2 _ rfl, h.o1, h.o2, h.ne, h.r1, h.r2, h.rp, h.bel.setCell h.r2 _⟩
/-- Both places were set, and they are not one. -/
def Tail (w wx : World) (b1 b2 : Nat) (p : Pl) (c : Cf) (kp ip vp kq iq vq : Int) : Prop :=
  ∃ a b, placeA c kp ip vp = some a ∧ placeA c kq iq vq = some b ∧ a ≠ b ∧ EA w wx b1 b2 p c ⟨((List.replicate c.size 0).set a 5).set b 6, 2⟩ kp ip vp kq iq vq
set_option maxRecDepth 100000 in
set_option maxHeartbeats 2000000 in
theorem walk_out1 (c : Cf) (kp ip vp kq iq vq : Int) (w : World) (h : c.May) (hb : littleB c.N c.W c.R = true) (hk : 2 < kp) :
    Calls Try.prog 5 #[c.val, .agg #[.int .u8 kp, .int .i64 ip, .int .i64 vp], .agg #[.int .u8 kq, .int .i64 iq, .int .i64 vq]] w fun e w' => e = .returned (.bool true) ∧ Below w.heap.size w w' := by
  have dk : decide (2 < kp) = true := by simp [hk]
  clear hk
  have HM := Lib.hid h
  have HL := Lib.hid hb
  have hg := gnew_yes c (((w.alloc (.cells #[.int .i64 (c.N : Int), .int .i64 (c.W : Int), .int .i64 (c.R : Int), .int .i64 (c.K : Int)] 23)).alloc (.cells #[.int .u8 kp, .int .i64 ip, .int .i64 vp] 53)).alloc (.cells #[.int .u8 kq, .int .i64 iq, .int .i64 vq] 53)) h
  unfold Cf.val at hg ⊢
  have HGN := Lib.hid hg
  clear h hb hg
  go_enter Try.func5, Try.ntmps5
  go_wp2_with fail
  refine HGN.out.mono ?_
  rintro e w1 ⟨p, rfl, hG, hp, hb⟩
  have hBk := (((Blk.new w #[.int .i64 (c.N : Int), .int .i64 (c.W : Int), .int .i64 (c.R : Int), .int .i64 (c.K : Int)] 23).alloc (.cells #[.int .u8 kp, .int .i64 ip, .int .i64 vp] 53)).alloc (.cells #[.int .u8 kq, .int .i64 iq, .int .i64 vq] 53)).later hb
  have c0 := hBk.cell 0 rfl
  have c1 := hBk.cell 1 rfl
  have c2 := hBk.cell 2 rfl
  have c3 := hBk.cell 3 rfl
  have HE : Hid (EA w w1 (w.heap.size + 1) (w.heap.size + 2) p c ⟨List.replicate c.size 0, 0⟩ kp ip vp kq iq vq) := Lib.hid ⟨hG, by
      have := ((Blk.new (w.alloc (.cells #[.int .i64 (c.N : Int), .int .i64 (c.W : Int), .int .i64 (c.R : Int), .int .i64 (c.K : Int)] 23)) #[.int .u8 kp, .int .i64 ip, .int .i64 vp] 53).alloc (.cells #[.int .u8 kq, .int .i64 iq, .int .i64 vq] 53)).later hb
      simpa using this, by
      have := (Blk.new ((w.alloc (.cells #[.int .i64 (c.N : Int), .int .i64 (c.W : Int), .int .i64 (c.R : Int), .int .i64 (c.K : Int)] 23)).alloc (.cells #[.int .u8 kp, .int .i64 ip, .int .i64 vp] 53)) #[.int .u8 kq, .int .i64 iq, .int .i64 vq] 53).later hb
      simpa using this, (fun hx => by have := hp _ hx; simp at this; omega), (fun hx => by have := hp _ hx; simp at this; omega), by omega, by omega, by omega, (fun k hk => by have := hp k hk; simp at this; omega), (((below_new w _).alloc (by simp) _).alloc (by simp; omega) _).trans (hb.mono (by simp; omega))⟩
  clear hb hBk hG hp
  go_wp2_with fail
  refine (asB (little_any _ _ _ _ _) HL.out).mono ?_
  rintro e w2 ⟨rfl, hb⟩
  have HE2 := Lib.hid (HE.out.later hb)
  have y10 := HE2.out.x1.cell 0 rfl
  have y11 := HE2.out.x1.cell 1 rfl
  have y12 := HE2.out.x1.cell 2 rfl
  have y20 := HE2.out.x2.cell 0 rfl
  have y21 := HE2.out.x2.cell 1 rfl
  have y22 := HE2.out.x2.cell 2 rfl
  have f1 := HE2.out.x1.free 2
  have f2 := HE2.out.x2.free 2
  clear hb c0 c1 c2 c3
  go_wp2_with fail
  refine (begun5_any _).mono ?_
  rintro e w3 ⟨rfl, hb⟩
  have HB3 := Lib.hid (below_step HE2.out.bel hb)
  clear hb
  go_wp2_with fail
  go_ret
  exact ⟨rfl, HB3.out⟩
set_option maxRecDepth 100000 in
set_option maxHeartbeats 2000000 in
theorem walk_out2 (c : Cf) (kp ip vp kq iq vq : Int) (w : World) (h : c.May) (hb : littleB c.N c.W c.R = true) (hk : ¬ 2 < kp) (hk2 : 2 < kq) :
    Calls Try.prog 5 #[c.val, .agg #[.int .u8 kp, .int .i64 ip, .int .i64 vp], .agg #[.int .u8 kq, .int .i64 iq, .int .i64 vq]] w fun e w' => e = .returned (.bool true) ∧ Below w.heap.size w w' := by
  have dk : decide (2 < kp) = false := by simp; omega
  have dk2 : decide (2 < kq) = true := by simp [hk2]
  clear hk hk2
  have HM := Lib.hid h
  have HL := Lib.hid hb
  have hg := gnew_yes c (((w.alloc (.cells #[.int .i64 (c.N : Int), .int .i64 (c.W : Int), .int .i64 (c.R : Int), .int .i64 (c.K : Int)] 23)).alloc (.cells #[.int .u8 kp, .int .i64 ip, .int .i64 vp] 53)).alloc (.cells #[.int .u8 kq, .int .i64 iq, .int .i64 vq] 53)) h
  unfold Cf.val at hg ⊢
  have HGN := Lib.hid hg
  clear h hb hg
  go_enter Try.func5, Try.ntmps5
  go_wp2_with fail
  refine HGN.out.mono ?_
  rintro e w1 ⟨p, rfl, hG, hp, hb⟩
  have hBk := (((Blk.new w #[.int .i64 (c.N : Int), .int .i64 (c.W : Int), .int .i64 (c.R : Int), .int .i64 (c.K : Int)] 23).alloc (.cells #[.int .u8 kp, .int .i64 ip, .int .i64 vp] 53)).alloc (.cells #[.int .u8 kq, .int .i64 iq, .int .i64 vq] 53)).later hb
  have c0 := hBk.cell 0 rfl
  have c1 := hBk.cell 1 rfl
  have c2 := hBk.cell 2 rfl
  have c3 := hBk.cell 3 rfl
  have HE : Hid (EA w w1 (w.heap.size + 1) (w.heap.size + 2) p c ⟨List.replicate c.size 0, 0⟩ kp ip vp kq iq vq) := Lib.hid ⟨hG, by
      have := ((Blk.new (w.alloc (.cells #[.int .i64 (c.N : Int), .int .i64 (c.W : Int), .int .i64 (c.R : Int), .int .i64 (c.K : Int)] 23)) #[.int .u8 kp, .int .i64 ip, .int .i64 vp] 53).alloc (.cells #[.int .u8 kq, .int .i64 iq, .int .i64 vq] 53)).later hb
      simpa using this, by
      have := (Blk.new ((w.alloc (.cells #[.int .i64 (c.N : Int), .int .i64 (c.W : Int), .int .i64 (c.R : Int), .int .i64 (c.K : Int)] 23)).alloc (.cells #[.int .u8 kp, .int .i64 ip, .int .i64 vp] 53)) #[.int .u8 kq, .int .i64 iq, .int .i64 vq] 53).later hb
      simpa using this, (fun hx => by have := hp _ hx; simp at this; omega), (fun hx => by have := hp _ hx; simp at this; omega), by omega, by omega, by omega, (fun k hk => by have := hp k hk; simp at this; omega), (((below_new w _).alloc (by simp) _).alloc (by simp; omega) _).trans (hb.mono (by simp; omega))⟩
  clear hb hBk hG hp
  go_wp2_with fail
  refine (asB (little_any _ _ _ _ _) HL.out).mono ?_
  rintro e w2 ⟨rfl, hb⟩
  have HE2 := Lib.hid (HE.out.later hb)
  have y10 := HE2.out.x1.cell 0 rfl
  have y11 := HE2.out.x1.cell 1 rfl
  have y12 := HE2.out.x1.cell 2 rfl
  have y20 := HE2.out.x2.cell 0 rfl
  have y21 := HE2.out.x2.cell 1 rfl
  have y22 := HE2.out.x2.cell 2 rfl
  have f1 := HE2.out.x1.free 2
  have f2 := HE2.out.x2.free 2
  clear hb c0 c1 c2 c3
  go_wp2_with fail
  refine (begun5_any _).mono ?_
  rintro e w3 ⟨rfl, hb⟩
  have HB3 := Lib.hid (below_step HE2.out.bel hb)
  clear hb
  go_wp2_with fail
  go_ret
  exact ⟨rfl, HB3.out⟩
set_option maxRecDepth 100000 in
set_option maxHeartbeats 2000000 in
theorem walk_big (c : Cf) (kp ip vp kq iq vq : Int) (w : World) (h : c.May) (hb : littleB c.N c.W c.R = false) :
    Calls Try.prog 5 #[c.val, .agg #[.int .u8 kp, .int .i64 ip, .int .i64 vp], .agg #[.int .u8 kq, .int .i64 iq, .int .i64 vq]] w fun e w' => e = .returned (.bool true) ∧ Below w.heap.size w w' := by
  have HM := Lib.hid h
  have HL := Lib.hid hb
  have hg := gnew_yes c (((w.alloc (.cells #[.int .i64 (c.N : Int), .int .i64 (c.W : Int), .int .i64 (c.R : Int), .int .i64 (c.K : Int)] 23)).alloc (.cells #[.int .u8 kp, .int .i64 ip, .int .i64 vp] 53)).alloc (.cells #[.int .u8 kq, .int .i64 iq, .int .i64 vq] 53)) h
  unfold Cf.val at hg ⊢
  have HGN := Lib.hid hg
  clear h hb hg
  go_enter Try.func5, Try.ntmps5
  go_wp2_with fail
  refine HGN.out.mono ?_
  rintro e w1 ⟨p, rfl, hG, hp, hb⟩
  have hBk := (((Blk.new w #[.int .i64 (c.N : Int), .int .i64 (c.W : Int), .int .i64 (c.R : Int), .int .i64 (c.K : Int)] 23).alloc (.cells #[.int .u8 kp, .int .i64 ip, .int .i64 vp] 53)).alloc (.cells #[.int .u8 kq, .int .i64 iq, .int .i64 vq] 53)).later hb
  have c0 := hBk.cell 0 rfl
  have c1 := hBk.cell 1 rfl
  have c2 := hBk.cell 2 rfl
  have c3 := hBk.cell 3 rfl
  have HE : Hid (EA w w1 (w.heap.size + 1) (w.heap.size + 2) p c ⟨List.replicate c.size 0, 0⟩ kp ip vp kq iq vq) := Lib.hid ⟨hG, by
      have := ((Blk.new (w.alloc (.cells #[.int .i64 (c.N : Int), .int .i64 (c.W : Int), .int .i64 (c.R : Int), .int .i64 (c.K : Int)] 23)) #[.int .u8 kp, .int .i64 ip, .int .i64 vp] 53).alloc (.cells #[.int .u8 kq, .int .i64 iq, .int .i64 vq] 53)).later hb
      simpa using this, by
      have := (Blk.new ((w.alloc (.cells #[.int .i64 (c.N : Int), .int .i64 (c.W : Int), .int .i64 (c.R : Int), .int .i64 (c.K : Int)] 23)).alloc (.cells #[.int .u8 kp, .int .i64 ip, .int .i64 vp] 53)) #[.int .u8 kq, .int .i64 iq, .int .i64 vq] 53).later hb
      simpa using this, (fun hx => by have := hp _ hx; simp at this; omega), (fun hx => by have := hp _ hx; simp at this; omega), by omega, by omega, by omega, (fun k hk => by have := hp k hk; simp at this; omega), (((below_new w _).alloc (by simp) _).alloc (by simp; omega) _).trans (hb.mono (by simp; omega))⟩
  clear hb hBk hG hp
  go_wp2_with fail
  refine (asB (little_any _ _ _ _ _) HL.out).mono ?_
  rintro e w2 ⟨rfl, hb⟩
  have HE2 := Lib.hid (HE.out.later hb)
  have y10 := HE2.out.x1.cell 0 rfl
  have y11 := HE2.out.x1.cell 1 rfl
  have y12 := HE2.out.x1.cell 2 rfl
  have y20 := HE2.out.x2.cell 0 rfl
  have y21 := HE2.out.x2.cell 1 rfl
  have y22 := HE2.out.x2.cell 2 rfl
  have f1 := HE2.out.x1.free 2
  have f2 := HE2.out.x2.free 2
  clear hb c0 c1 c2 c3
  go_wp2_with fail
  refine (begun5_any _).mono ?_
  rintro e w3 ⟨rfl, hb⟩
  have HB3 := Lib.hid (below_step HE2.out.bel hb)
  clear hb
  go_wp2_with fail
  go_ret
  exact ⟨rfl, HB3.out⟩
set_option maxRecDepth 100000 in
set_option maxHeartbeats 2000000 in
theorem walk_in00 (c : Cf) (kp ip vp kq iq vq : Int) (w : World) (h : c.May) (hb : littleB c.N c.W c.R = true) (h1 : ¬ 2 < kp) (h2 : ¬ 2 < kq) (h3 : ¬ kp < 2) (h4 : ¬ kq < 2) (h5 : 0 ≤ kp) (h6 : 0 ≤ kq) :
    Calls Try.prog 5 #[c.val, .agg #[.int .u8 kp, .int .i64 ip, .int .i64 vp], .agg #[.int .u8 kq, .int .i64 iq, .int .i64 vq]] w fun e w' => e = .returned (.bool true) ∧ Below w.heap.size w w' := by
  have dk : decide (2 < kp) = false := by simp; omega
  have dk2 : decide (2 < kq) = false := by simp; omega
  have dl : decide (kp < 2) = false := by simp; omega
  have dl2 : decide (kq < 2) = false := by simp; omega
  have e1 : nrm kp vp = vp := by unfold nrm; rw [if_neg h3]
  have e2 : nrm kq vq = vq := by unfold nrm; rw [if_neg h4]
  have hinj : ∀ j, placeA c kp ip vp = some j → placeA c kq iq vq = some j → kp = kq ∧ ip = iq ∧ (vp : Int) = vq := fun j ha hb => by
    have := placeA_inj (c := c) (k := kp) (i := ip) (v := vp) (k' := kq) (i' := iq) (v' := vq) (j := j) h5 (by omega) h6 (by omega) (by rw [e1]; exact ha) (by rw [e2]; exact hb)
    rwa [e1, e2] at this
  have HI := Lib.hid hinj
  clear h1 h2 h3 h4 h5 h6 e1 e2 hinj
  have HM := Lib.hid h
  have HL := Lib.hid hb
  have hg := gnew_yes c (((w.alloc (.cells #[.int .i64 (c.N : Int), .int .i64 (c.W : Int), .int .i64 (c.R : Int), .int .i64 (c.K : Int)] 23)).alloc (.cells #[.int .u8 kp, .int .i64 ip, .int .i64 vp] 53)).alloc (.cells #[.int .u8 kq, .int .i64 iq, .int .i64 vq] 53)) h
  unfold Cf.val at hg ⊢
  have HGN := Lib.hid hg
  clear h hb hg
  go_enter Try.func5, Try.ntmps5
  go_wp2_with fail
  refine HGN.out.mono ?_
  rintro e w1 ⟨p, rfl, hG, hp, hb⟩
  have hBk := (((Blk.new w #[.int .i64 (c.N : Int), .int .i64 (c.W : Int), .int .i64 (c.R : Int), .int .i64 (c.K : Int)] 23).alloc (.cells #[.int .u8 kp, .int .i64 ip, .int .i64 vp] 53)).alloc (.cells #[.int .u8 kq, .int .i64 iq, .int .i64 vq] 53)).later hb
  have c0 := hBk.cell 0 rfl
  have c1 := hBk.cell 1 rfl
  have c2 := hBk.cell 2 rfl
  have c3 := hBk.cell 3 rfl
  have HE : Hid (EA w w1 (w.heap.size + 1) (w.heap.size + 2) p c ⟨List.replicate c.size 0, 0⟩ kp ip vp kq iq vq) := Lib.hid ⟨hG, by
      have := ((Blk.new (w.alloc (.cells #[.int .i64 (c.N : Int), .int .i64 (c.W : Int), .int .i64 (c.R : Int), .int .i64 (c.K : Int)] 23)) #[.int .u8 kp, .int .i64 ip, .int .i64 vp] 53).alloc (.cells #[.int .u8 kq, .int .i64 iq, .int .i64 vq] 53)).later hb
      simpa using this, by
      have := (Blk.new ((w.alloc (.cells #[.int .i64 (c.N : Int), .int .i64 (c.W : Int), .int .i64 (c.R : Int), .int .i64 (c.K : Int)] 23)).alloc (.cells #[.int .u8 kp, .int .i64 ip, .int .i64 vp] 53)) #[.int .u8 kq, .int .i64 iq, .int .i64 vq] 53).later hb
      simpa using this, (fun hx => by have := hp _ hx; simp at this; omega), (fun hx => by have := hp _ hx; simp at this; omega), by omega, by omega, by omega, (fun k hk => by have := hp k hk; simp at this; omega), (((below_new w _).alloc (by simp) _).alloc (by simp; omega) _).trans (hb.mono (by simp; omega))⟩
  clear hb hBk hG hp
  go_wp2_with fail
  refine (asB (little_any _ _ _ _ _) HL.out).mono ?_
  rintro e w2 ⟨rfl, hb⟩
  have HE2 := Lib.hid (HE.out.later hb)
  have y10 := HE2.out.x1.cell 0 rfl
  have y11 := HE2.out.x1.cell 1 rfl
  have y12 := HE2.out.x1.cell 2 rfl
  have y20 := HE2.out.x2.cell 0 rfl
  have y21 := HE2.out.x2.cell 1 rfl
  have y22 := HE2.out.x2.cell 2 rfl
  have f1 := HE2.out.x1.free 2
  have f2 := HE2.out.x2.free 2
  clear hb c0 c1 c2 c3
  go_upto_region 10 with fail
  have HE3 := Lib.hid HE2.out
  clear y10 y11 y12 y20 y21 y22 f1 f2
  have y10 := HE3.out.x1.cell 0 rfl
  have y11 := HE3.out.x1.cell 1 rfl
  have y12 := HE3.out.x1.cell 2 rfl
  have y20 := HE3.out.x2.cell 0 rfl
  have y21 := HE3.out.x2.cell 1 rfl
  have y22 := HE3.out.x2.cell 2 rfl
  go_cut [65] (fun s65 wx => (s65 = .bool true ∧ Below w.heap.size w wx) ∨ (s65 = .bool false ∧ Tail w wx (w.heap.size + 1) (w.heap.size + 2) p c kp ip vp kq iq vq))
  case first =>
    cases hp : placeA c kp ip vp with
    | none =>
      go_wp2_with fail
      refine (putV p c _ kp ip vp 5 _ HE3.out.gd (by decide) (by decide) hp).mono ?_
      rintro e w4 ⟨rfl, hG, hT⟩
      have HE4 := Lib.hid (HE3.out.step hG hT)
      clear hG hT
      go_wp2_with fail
      go_meet
      exact .inl ⟨rfl, HE4.out.bel⟩
    | some a =>
      have HPA := Lib.hid hp
      clear hp
      go_wp2_with fail
      refine (putV p c _ kp ip vp 5 _ HE3.out.gd (by decide) (by decide) HPA.out).mono ?_
      rintro e w4 ⟨rfl, hG, hT⟩
      have HE4 := Lib.hid (HE3.out.step hG hT)
      clear hG hT y10 y11 y12 y20 y21 y22
      have y10 := HE4.out.x1.cell 0 rfl
      have y11 := HE4.out.x1.cell 1 rfl
      have y12 := HE4.out.x1.cell 2 rfl
      have y20 := HE4.out.x2.cell 0 rfl
      have y21 := HE4.out.x2.cell 1 rfl
      have y22 := HE4.out.x2.cell 2 rfl
      by_cases heq : kp = kq ∧ ip = iq ∧ (vp : Int) = vq
      · obtain ⟨e1, e2, e3⟩ := heq
        subst e1 e2
        try subst e3
        go_wp2_with fail
        go_meet
        exact .inl ⟨rfl, HE4.out.bel⟩
      have HNE : Hid (∀ b, placeA c kq iq vq = some b → a ≠ b) := Lib.hid fun b hb e => heq (by have := HI.out a HPA.out (by rw [e]; exact hb); simpa using this)
      clear HI
      by_cases q1 : kq = kp
      · subst q1
        by_cases q2 : iq = ip
        · subst q2
          have q3 : ¬ (vp : Int) = vq := fun e => heq ⟨rfl, rfl, e⟩
          have q3b : ((vp : Int) == vq) = false := bne_of' q3
          clear heq
          cases hq : placeA c kq iq vq with
          | none =>
            have HQ := Lib.hid hq
            clear hq
            go_wp2_with fail
            refine (putV p c _ _ _ _ 6 _ HE4.out.gd (by decide) (by decide) HQ.out).mono ?_
            rintro e w5 ⟨rfl, hG, hT⟩
            have HE5 := Lib.hid (HE4.out.step hG hT)
            clear hG hT
            go_wp2_with fail
            go_meet
            exact .inl ⟨rfl, HE5.out.bel⟩
          | some b =>
            have HQ := Lib.hid hq
            clear hq
            go_wp2_with fail
            refine (putV p c _ _ _ _ 6 _ HE4.out.gd (by decide) (by decide) HQ.out).mono ?_
            rintro e w5 ⟨rfl, hG, hT⟩
            have HE5 := Lib.hid (HE4.out.step hG hT)
            clear hG hT
            go_wp2_with fail
            go_meet
            exact .inr ⟨rfl, a, b, HPA.out, HQ.out, HNE.out b HQ.out, HE5.out⟩
        · have q2b : (ip == iq) = false := bne_of' (Ne.symm q2)
          have q2c : ¬ ip = iq := Ne.symm q2
          clear heq q2
          cases hq : placeA c kq iq vq with
          | none =>
            have HQ := Lib.hid hq
            clear hq
            go_wp2_with fail
            refine (putV p c _ _ _ _ 6 _ HE4.out.gd (by decide) (by decide) HQ.out).mono ?_
            rintro e w5 ⟨rfl, hG, hT⟩
            have HE5 := Lib.hid (HE4.out.step hG hT)
            clear hG hT
            go_wp2_with fail
            go_meet
            exact .inl ⟨rfl, HE5.out.bel⟩
          | some b =>
            have HQ := Lib.hid hq
            clear hq
            go_wp2_with fail
            refine (putV p c _ _ _ _ 6 _ HE4.out.gd (by decide) (by decide) HQ.out).mono ?_
            rintro e w5 ⟨rfl, hG, hT⟩
            have HE5 := Lib.hid (HE4.out.step hG hT)
            clear hG hT
            go_wp2_with fail
            go_meet
            exact .inr ⟨rfl, a, b, HPA.out, HQ.out, HNE.out b HQ.out, HE5.out⟩
      · have q1b : (kp == kq) = false := bne_of' (Ne.symm q1)
        have q1c : ¬ kp = kq := Ne.symm q1
        clear heq q1
        cases hq : placeA c kq iq vq with
        | none =>
          have HQ := Lib.hid hq
          clear hq
          go_wp2_with fail
          refine (putV p c _ _ _ _ 6 _ HE4.out.gd (by decide) (by decide) HQ.out).mono ?_
          rintro e w5 ⟨rfl, hG, hT⟩
          have HE5 := Lib.hid (HE4.out.step hG hT)
          clear hG hT
          go_wp2_with fail
          go_meet
          exact .inl ⟨rfl, HE5.out.bel⟩
        | some b =>
          have HQ := Lib.hid hq
          clear hq
          go_wp2_with fail
          refine (putV p c _ _ _ _ 6 _ HE4.out.gd (by decide) (by decide) HQ.out).mono ?_
          rintro e w5 ⟨rfl, hG, hT⟩
          have HE5 := Lib.hid (HE4.out.step hG hT)
          clear hG hT
          go_wp2_with fail
          go_meet
          exact .inr ⟨rfl, a, b, HPA.out, HQ.out, HNE.out b HQ.out, HE5.out⟩
  case rest =>
    clear y10 y11 y12 y20 y21 y22
    rcases hcut with ⟨rfl, hb⟩ | ⟨rfl, a, b, hpa, hqa, hab, hE⟩
    · have HB := Lib.hid hb
      clear hb
      go_wp2_with fail
      refine (begun5_any _).mono ?_
      rintro e w6 ⟨rfl, hb⟩
      have HB6 := Lib.hid (below_step HB.out hb)
      clear hb
      go_wp2_with fail
      go_ret
      exact ⟨rfl, HB6.out⟩
    · have HPA := Lib.hid hpa
      have HQ := Lib.hid hqa
      have HAB := Lib.hid hab
      have HE5 := Lib.hid hE
      have HA : Hid (a < c.size ∧ b < c.size) := Lib.hid ⟨placeA_lt hpa, placeA_lt hqa⟩
      clear hpa hqa hab hE
      have HZ : Hid (∃ zs : List Int, zs = ((List.replicate c.size 0).set a 5).set b 6) := Lib.hid ⟨_, rfl⟩
      obtain ⟨zs, hzs⟩ := HZ.out
      rw [← hzs] at HE5
      have HZS := Lib.hid hzs
      have hzl : zs.length = c.size := by rw [hzs]; simp
      have HZL := Lib.hid hzl
      clear hzs HZ hzl
      go_wp2_with fail
      refine (gwordsN p c _ _ HE5.out.gd (n := c.size) HZL.out).mono ?_
      rintro e w6 ⟨u, rfl, hu, hu2, hb⟩
      have HU : Hid (Blk w6 u (words zs) 50) := Lib.hid hu
      have HE6 := Lib.hid (HE5.out.later hb)
      have hsz := HM.out.size
      clear hu hu2 hb
      go_wp2_with fail
      go_loop [9, 70] (fun t i => ∃ k : Nat, k ≤ c.size ∧ i = .int .i64 k ∧ t = .int .i64 (nzTo zs k : Int)) (fun _ i => c.size - (intOf i).toNat)
      case atStart => exact ⟨0, Nat.zero_le _, rfl, rfl⟩
      case round =>
        obtain ⟨k, hk, rfl, rfl⟩ := hrel
        by_cases hlt : k < c.size
        · have i0 : (0 : Int) ≤ (k : Int) := by omega
          have i1 : (k : Int) < (c.size : Int) := by omega
          have hle := nzTo_le zs k
          have hcc : w6.cell? ⟨u, k, none⟩ = some (.int .u32 (nth zs k)) := HU.out.cell k (words_get (by rw [HZL.out]; exact hlt))
          have hwr : IntKind.i64.wrap ((nzTo zs k : Int) + 1) = (nzTo zs k : Int) + 1 := IntWalk.i64_in _ (by omega)
          by_cases hz : nth zs k = 0
          · rw [hz] at hcc
            have HS : Hid (nzTo zs (k + 1) = nzTo zs k) := Lib.hid (by show _ + (if _ then _ else _) = _; rw [if_pos hz]; omega)
            clear hz
            go_wp2_with fail
            go_round
            case rel => exact ⟨k + 1, by omega, by go_num, by rw [HS.out]⟩
            case measure => simp [intOf]; omega
          · have HS : Hid (nzTo zs (k + 1) = nzTo zs k + 1) := Lib.hid (by show _ + (if _ then _ else _) = _; rw [if_neg hz])
            have hzb : (nth zs k == 0) = false := bne_of' hz
            clear hz
            go_wp2_with fail
            go_round
            case rel => exact ⟨k + 1, by omega, by go_num, by rw [HS.out]; simp⟩
            case measure => simp [intOf]; omega
        · obtain rfl : k = c.size := by omega
          have hn2 : nzTo zs c.size = 2 := by rw [HZS.out, nzTo_two c.size a b 5 6 (by decide) (by decide) HA.out.1 HA.out.2 HAB.out, if_pos HA.out.1, if_pos HA.out.2]
          rw [hn2]
          have HXA : Hid (nth zs a = 5) := Lib.hid (by rw [HZS.out, nth_set_ne (Ne.symm HAB.out), nth_set_eq (by simpa using HA.out.1)])
          have HXB : Hid (nth zs b = 6) := Lib.hid (by rw [HZS.out, nth_set_eq (by simpa using HA.out.2)])
          clear hn2
          have y10 := HE6.out.x1.cell 0 rfl
          have y11 := HE6.out.x1.cell 1 rfl
          have y12 := HE6.out.x1.cell 2 rfl
          have y20 := HE6.out.x2.cell 0 rfl
          have y21 := HE6.out.x2.cell 1 rfl
          have y22 := HE6.out.x2.cell 2 rfl
          go_wp2_with fail
          refine (getV p c _ _ _ _ _ HE6.out.gd HPA.out HXA.out).mono ?_
          rintro e w7 ⟨rfl, hG, hT⟩
          have HE7 := Lib.hid (HE6.out.step hG hT)
          clear hG hT y10 y11 y12 y20 y21 y22
          have y20 := HE7.out.x2.cell 0 rfl
          have y21 := HE7.out.x2.cell 1 rfl
          have y22 := HE7.out.x2.cell 2 rfl
          go_wp2_with fail
          refine (getV p c _ _ _ _ _ HE7.out.gd HQ.out HXB.out).mono ?_
          rintro e w8 ⟨rfl, hG, hT⟩
          have HE8 := Lib.hid (HE7.out.step hG hT)
          clear hG hT y20 y21 y22
          go_wp2_with fail
          refine (begun5_any _).mono ?_
          rintro e w9 ⟨rfl, hb⟩
          have HB9 := Lib.hid (below_step HE8.out.bel hb)
          clear hb
          go_wp2_with fail
          go_ret
          exact ⟨rfl, HB9.out⟩
set_option maxRecDepth 100000 in
set_option maxHeartbeats 2000000 in
theorem walk_in01 (c : Cf) (kp ip vp kq iq vq : Int) (w : World) (h : c.May) (hb : littleB c.N c.W c.R = true) (h1 : ¬ 2 < kp) (h2 : ¬ 2 < kq) (h3 : ¬ kp < 2) (h4 : kq < 2) (h5 : 0 ≤ kp) (h6 : 0 ≤ kq) :
    Calls Try.prog 5 #[c.val, .agg #[.int .u8 kp, .int .i64 ip, .int .i64 vp], .agg #[.int .u8 kq, .int .i64 iq, .int .i64 vq]] w fun e w' => e = .returned (.bool true) ∧ Below w.heap.size w w' := by
  have dk : decide (2 < kp) = false := by simp; omega
  have dk2 : decide (2 < kq) = false := by simp; omega
  have dl : decide (kp < 2) = false := by simp; omega
  have dl2 : decide (kq < 2) = true := by simp [h4]
  have e1 : nrm kp vp = vp := by unfold nrm; rw [if_neg h3]
  have e2 : nrm kq vq = 0 := by unfold nrm; rw [if_pos h4]
  have hinj : ∀ j, placeA c kp ip vp = some j → placeA c kq iq 0 = some j → kp = kq ∧ ip = iq ∧ (vp : Int) = 0 := fun j ha hb => by
    have := placeA_inj (c := c) (k := kp) (i := ip) (v := vp) (k' := kq) (i' := iq) (v' := vq) (j := j) h5 (by omega) h6 (by omega) (by rw [e1]; exact ha) (by rw [e2]; exact hb)
    rwa [e1, e2] at this
  have HI := Lib.hid hinj
  clear h1 h2 h3 h4 h5 h6 e1 e2 hinj
  have HM := Lib.hid h
  have HL := Lib.hid hb
  have hg := gnew_yes c (((w.alloc (.cells #[.int .i64 (c.N : Int), .int .i64 (c.W : Int), .int .i64 (c.R : Int), .int .i64 (c.K : Int)] 23)).alloc (.cells #[.int .u8 kp, .int .i64 ip, .int .i64 vp] 53)).alloc (.cells #[.int .u8 kq, .int .i64 iq, .int .i64 vq] 53)) h
  unfold Cf.val at hg ⊢
  have HGN := Lib.hid hg
  clear h hb hg
  go_enter Try.func5, Try.ntmps5
  go_wp2_with fail
  refine HGN.out.mono ?_
  rintro e w1 ⟨p, rfl, hG, hp, hb⟩
  have hBk := (((Blk.new w #[.int .i64 (c.N : Int), .int .i64 (c.W : Int), .int .i64 (c.R : Int), .int .i64 (c.K : Int)] 23).alloc (.cells #[.int .u8 kp, .int .i64 ip, .int .i64 vp] 53)).alloc (.cells #[.int .u8 kq, .int .i64 iq, .int .i64 vq] 53)).later hb
  have c0 := hBk.cell 0 rfl
  have c1 := hBk.cell 1 rfl
  have c2 := hBk.cell 2 rfl
  have c3 := hBk.cell 3 rfl
  have HE : Hid (EA w w1 (w.heap.size + 1) (w.heap.size + 2) p c ⟨List.replicate c.size 0, 0⟩ kp ip vp kq iq vq) := Lib.hid ⟨hG, by
      have := ((Blk.new (w.alloc (.cells #[.int .i64 (c.N : Int), .int .i64 (c.W : Int), .int .i64 (c.R : Int), .int .i64 (c.K : Int)] 23)) #[.int .u8 kp, .int .i64 ip, .int .i64 vp] 53).alloc (.cells #[.int .u8 kq, .int .i64 iq, .int .i64 vq] 53)).later hb
      simpa using this, by
      have := (Blk.new ((w.alloc (.cells #[.int .i64 (c.N : Int), .int .i64 (c.W : Int), .int .i64 (c.R : Int), .int .i64 (c.K : Int)] 23)).alloc (.cells #[.int .u8 kp, .int .i64 ip, .int .i64 vp] 53)) #[.int .u8 kq, .int .i64 iq, .int .i64 vq] 53).later hb
      simpa using this, (fun hx => by have := hp _ hx; simp at this; omega), (fun hx => by have := hp _ hx; simp at this; omega), by omega, by omega, by omega, (fun k hk => by have := hp k hk; simp at this; omega), (((below_new w _).alloc (by simp) _).alloc (by simp; omega) _).trans (hb.mono (by simp; omega))⟩
  clear hb hBk hG hp
  go_wp2_with fail
  refine (asB (little_any _ _ _ _ _) HL.out).mono ?_
  rintro e w2 ⟨rfl, hb⟩
  have HE2 := Lib.hid (HE.out.later hb)
  have y10 := HE2.out.x1.cell 0 rfl
  have y11 := HE2.out.x1.cell 1 rfl
  have y12 := HE2.out.x1.cell 2 rfl
  have y20 := HE2.out.x2.cell 0 rfl
  have y21 := HE2.out.x2.cell 1 rfl
  have y22 := HE2.out.x2.cell 2 rfl
  have f1 := HE2.out.x1.free 2
  have f2 := HE2.out.x2.free 2
  clear hb c0 c1 c2 c3
  go_upto_region 10 with fail
  have HE3 := Lib.hid (HE2.out.set2 0)
  clear y10 y11 y12 y20 y21 y22 f1 f2
  have y10 := HE3.out.x1.cell 0 rfl
  have y11 := HE3.out.x1.cell 1 rfl
  have y12 := HE3.out.x1.cell 2 rfl
  have y20 := HE3.out.x2.cell 0 rfl
  have y21 := HE3.out.x2.cell 1 rfl
  have y22 := HE3.out.x2.cell 2 rfl
  go_cut [65] (fun s65 wx => (s65 = .bool true ∧ Below w.heap.size w wx) ∨ (s65 = .bool false ∧ Tail w wx (w.heap.size + 1) (w.heap.size + 2) p c kp ip vp kq iq 0))
  case first =>
    cases hp : placeA c kp ip vp with
    | none =>
      go_wp2_with fail
      refine (putV p c _ kp ip vp 5 _ HE3.out.gd (by decide) (by decide) hp).mono ?_
      rintro e w4 ⟨rfl, hG, hT⟩
      have HE4 := Lib.hid (HE3.out.step hG hT)
      clear hG hT
      go_wp2_with fail
      go_meet
      exact .inl ⟨rfl, HE4.out.bel⟩
    | some a =>
      have HPA := Lib.hid hp
      clear hp
      go_wp2_with fail
      refine (putV p c _ kp ip vp 5 _ HE3.out.gd (by decide) (by decide) HPA.out).mono ?_
      rintro e w4 ⟨rfl, hG, hT⟩
      have HE4 := Lib.hid (HE3.out.step hG hT)
      clear hG hT y10 y11 y12 y20 y21 y22
      have y10 := HE4.out.x1.cell 0 rfl
      have y11 := HE4.out.x1.cell 1 rfl
      have y12 := HE4.out.x1.cell 2 rfl
      have y20 := HE4.out.x2.cell 0 rfl
      have y21 := HE4.out.x2.cell 1 rfl
      have y22 := HE4.out.x2.cell 2 rfl
      by_cases heq : kp = kq ∧ ip = iq ∧ (vp : Int) = 0
      · obtain ⟨e1, e2, e3⟩ := heq
        subst e1 e2
        try subst e3
        go_wp2_with fail
        go_meet
        exact .inl ⟨rfl, HE4.out.bel⟩
      have HNE : Hid (∀ b, placeA c kq iq 0 = some b → a ≠ b) := Lib.hid fun b hb e => heq (by have := HI.out a HPA.out (by rw [e]; exact hb); simpa using this)
      clear HI
      by_cases q1 : kq = kp
      · subst q1
        by_cases q2 : iq = ip
        · subst q2
          have q3 : ¬ (vp : Int) = 0 := fun e => heq ⟨rfl, rfl, e⟩
          have q3b : ((vp : Int) == 0) = false := bne_of' q3
          clear heq
          cases hq : placeA c kq iq 0 with
          | none =>
            have HQ := Lib.hid hq
            clear hq
            go_wp2_with fail
            refine (putV p c _ _ _ _ 6 _ HE4.out.gd (by decide) (by decide) HQ.out).mono ?_
            rintro e w5 ⟨rfl, hG, hT⟩
            have HE5 := Lib.hid (HE4.out.step hG hT)
            clear hG hT
            go_wp2_with fail
            go_meet
            exact .inl ⟨rfl, HE5.out.bel⟩
          | some b =>
            have HQ := Lib.hid hq
            clear hq
            go_wp2_with fail
            refine (putV p c _ _ _ _ 6 _ HE4.out.gd (by decide) (by decide) HQ.out).mono ?_
            rintro e w5 ⟨rfl, hG, hT⟩
            have HE5 := Lib.hid (HE4.out.step hG hT)
            clear hG hT
            go_wp2_with fail
            go_meet
            exact .inr ⟨rfl, a, b, HPA.out, HQ.out, HNE.out b HQ.out, HE5.out⟩
        · have q2b : (ip == iq) = false := bne_of' (Ne.symm q2)
          have q2c : ¬ ip = iq := Ne.symm q2
          clear heq q2
          cases hq : placeA c kq iq 0 with
          | none =>
            have HQ := Lib.hid hq
            clear hq
            go_wp2_with fail
            refine (putV p c _ _ _ _ 6 _ HE4.out.gd (by decide) (by decide) HQ.out).mono ?_
            rintro e w5 ⟨rfl, hG, hT⟩
            have HE5 := Lib.hid (HE4.out.step hG hT)
            clear hG hT
            go_wp2_with fail
            go_meet
            exact .inl ⟨rfl, HE5.out.bel⟩
          | some b =>
            have HQ := Lib.hid hq
            clear hq
            go_wp2_with fail
            refine (putV p c _ _ _ _ 6 _ HE4.out.gd (by decide) (by decide) HQ.out).mono ?_
            rintro e w5 ⟨rfl, hG, hT⟩
            have HE5 := Lib.hid (HE4.out.step hG hT)
            clear hG hT
            go_wp2_with fail
            go_meet
            exact .inr ⟨rfl, a, b, HPA.out, HQ.out, HNE.out b HQ.out, HE5.out⟩
      · have q1b : (kp == kq) = false := bne_of' (Ne.symm q1)
        have q1c : ¬ kp = kq := Ne.symm q1
        clear heq q1
        cases hq : placeA c kq iq 0 with
        | none =>
          have HQ := Lib.hid hq
          clear hq
          go_wp2_with fail
          refine (putV p c _ _ _ _ 6 _ HE4.out.gd (by decide) (by decide) HQ.out).mono ?_
          rintro e w5 ⟨rfl, hG, hT⟩
          have HE5 := Lib.hid (HE4.out.step hG hT)
          clear hG hT
          go_wp2_with fail
          go_meet
          exact .inl ⟨rfl, HE5.out.bel⟩
        | some b =>
          have HQ := Lib.hid hq
          clear hq
          go_wp2_with fail
          refine (putV p c _ _ _ _ 6 _ HE4.out.gd (by decide) (by decide) HQ.out).mono ?_
          rintro e w5 ⟨rfl, hG, hT⟩
          have HE5 := Lib.hid (HE4.out.step hG hT)
          clear hG hT
          go_wp2_with fail
          go_meet
          exact .inr ⟨rfl, a, b, HPA.out, HQ.out, HNE.out b HQ.out, HE5.out⟩
  case rest =>
    clear y10 y11 y12 y20 y21 y22
    rcases hcut with ⟨rfl, hb⟩ | ⟨rfl, a, b, hpa, hqa, hab, hE⟩
    · have HB := Lib.hid hb
      clear hb
      go_wp2_with fail
      refine (begun5_any _).mono ?_
      rintro e w6 ⟨rfl, hb⟩
      have HB6 := Lib.hid (below_step HB.out hb)
      clear hb
      go_wp2_with fail
      go_ret
      exact ⟨rfl, HB6.out⟩
    · have HPA := Lib.hid hpa
      have HQ := Lib.hid hqa
      have HAB := Lib.hid hab
      have HE5 := Lib.hid hE
      have HA : Hid (a < c.size ∧ b < c.size) := Lib.hid ⟨placeA_lt hpa, placeA_lt hqa⟩
      clear hpa hqa hab hE
      have HZ : Hid (∃ zs : List Int, zs = ((List.replicate c.size 0).set a 5).set b 6) := Lib.hid ⟨_, rfl⟩
      obtain ⟨zs, hzs⟩ := HZ.out
      rw [← hzs] at HE5
      have HZS := Lib.hid hzs
      have hzl : zs.length = c.size := by rw [hzs]; simp
      have HZL := Lib.hid hzl
      clear hzs HZ hzl
      go_wp2_with fail
      refine (gwordsN p c _ _ HE5.out.gd (n := c.size) HZL.out).mono ?_
      rintro e w6 ⟨u, rfl, hu, hu2, hb⟩
      have HU : Hid (Blk w6 u (words zs) 50) := Lib.hid hu
      have HE6 := Lib.hid (HE5.out.later hb)
      have hsz := HM.out.size
      clear hu hu2 hb
      go_wp2_with fail
      go_loop [9, 70] (fun t i => ∃ k : Nat, k ≤ c.size ∧ i = .int .i64 k ∧ t = .int .i64 (nzTo zs k : Int)) (fun _ i => c.size - (intOf i).toNat)
      case atStart => exact ⟨0, Nat.zero_le _, rfl, rfl⟩
      case round =>
        obtain ⟨k, hk, rfl, rfl⟩ := hrel
        by_cases hlt : k < c.size
        · have i0 : (0 : Int) ≤ (k : Int) := by omega
          have i1 : (k : Int) < (c.size : Int) := by omega
          have hle := nzTo_le zs k
          have hcc : w6.cell? ⟨u, k, none⟩ = some (.int .u32 (nth zs k)) := HU.out.cell k (words_get (by rw [HZL.out]; exact hlt))
          have hwr : IntKind.i64.wrap ((nzTo zs k : Int) + 1) = (nzTo zs k : Int) + 1 := IntWalk.i64_in _ (by omega)
          by_cases hz : nth zs k = 0
          · rw [hz] at hcc
            have HS : Hid (nzTo zs (k + 1) = nzTo zs k) := Lib.hid (by show _ + (if _ then _ else _) = _; rw [if_pos hz]; omega)
            clear hz
            go_wp2_with fail
            go_round
            case rel => exact ⟨k + 1, by omega, by go_num, by rw [HS.out]⟩
            case measure => simp [intOf]; omega
          · have HS : Hid (nzTo zs (k + 1) = nzTo zs k + 1) := Lib.hid (by show _ + (if _ then _ else _) = _; rw [if_neg hz])
            have hzb : (nth zs k == 0) = false := bne_of' hz
            clear hz
            go_wp2_with fail
            go_round
            case rel => exact ⟨k + 1, by omega, by go_num, by rw [HS.out]; simp⟩
            case measure => simp [intOf]; omega
        · obtain rfl : k = c.size := by omega
          have hn2 : nzTo zs c.size = 2 := by rw [HZS.out, nzTo_two c.size a b 5 6 (by decide) (by decide) HA.out.1 HA.out.2 HAB.out, if_pos HA.out.1, if_pos HA.out.2]
          rw [hn2]
          have HXA : Hid (nth zs a = 5) := Lib.hid (by rw [HZS.out, nth_set_ne (Ne.symm HAB.out), nth_set_eq (by simpa using HA.out.1)])
          have HXB : Hid (nth zs b = 6) := Lib.hid (by rw [HZS.out, nth_set_eq (by simpa using HA.out.2)])
          clear hn2
          have y10 := HE6.out.x1.cell 0 rfl
          have y11 := HE6.out.x1.cell 1 rfl
          have y12 := HE6.out.x1.cell 2 rfl
          have y20 := HE6.out.x2.cell 0 rfl
          have y21 := HE6.out.x2.cell 1 rfl
          have y22 := HE6.out.x2.cell 2 rfl
          go_wp2_with fail
          refine (getV p c _ _ _ _ _ HE6.out.gd HPA.out HXA.out).mono ?_
          rintro e w7 ⟨rfl, hG, hT⟩
          have HE7 := Lib.hid (HE6.out.step hG hT)
          clear hG hT y10 y11 y12 y20 y21 y22
          have y20 := HE7.out.x2.cell 0 rfl
          have y21 := HE7.out.x2.cell 1 rfl
          have y22 := HE7.out.x2.cell 2 rfl
          go_wp2_with fail
          refine (getV p c _ _ _ _ _ HE7.out.gd HQ.out HXB.out).mono ?_
          rintro e w8 ⟨rfl, hG, hT⟩
          have HE8 := Lib.hid (HE7.out.step hG hT)
          clear hG hT y20 y21 y22
          go_wp2_with fail
          refine (begun5_any _).mono ?_
          rintro e w9 ⟨rfl, hb⟩
          have HB9 := Lib.hid (below_step HE8.out.bel hb)
          clear hb
          go_wp2_with fail
          go_ret
          exact ⟨rfl, HB9.out⟩
set_option maxRecDepth 100000 in
set_option maxHeartbeats 2000000 in
theorem walk_in10 (c : Cf) (kp ip vp kq iq vq : Int) (w : World) (h : c.May) (hb : littleB c.N c.W c.R = true) (h1 : ¬ 2 < kp) (h2 : ¬ 2 < kq) (h3 : kp < 2) (h4 : ¬ kq < 2) (h5 : 0 ≤ kp) (h6 : 0 ≤ kq) :
    Calls Try.prog 5 #[c.val, .agg #[.int .u8 kp, .int .i64 ip, .int .i64 vp], .agg #[.int .u8 kq, .int .i64 iq, .int .i64 vq]] w fun e w' => e = .returned (.bool true) ∧ Below w.heap.size w w' := by
  have dk : decide (2 < kp) = false := by simp; omega
  have dk2 : decide (2 < kq) = false := by simp; omega
  have dl : decide (kp < 2) = true := by simp [h3]
  have dl2 : decide (kq < 2) = false := by simp; omega
  have e1 : nrm kp vp = 0 := by unfold nrm; rw [if_pos h3]
  have e2 : nrm kq vq = vq := by unfold nrm; rw [if_neg h4]
  have hinj : ∀ j, placeA c kp ip 0 = some j → placeA c kq iq vq = some j → kp = kq ∧ ip = iq ∧ (0 : Int) = vq := fun j ha hb => by
    have := placeA_inj (c := c) (k := kp) (i := ip) (v := vp) (k' := kq) (i' := iq) (v' := vq) (j := j) h5 (by omega) h6 (by omega) (by rw [e1]; exact ha) (by rw [e2]; exact hb)
    rwa [e1, e2] at this
  have HI := Lib.hid hinj
  clear h1 h2 h3 h4 h5 h6 e1 e2 hinj
  have HM := Lib.hid h
  have HL := Lib.hid hb
  have hg := gnew_yes c (((w.alloc (.cells #[.int .i64 (c.N : Int), .int .i64 (c.W : Int), .int .i64 (c.R : Int), .int .i64 (c.K : Int)] 23)).alloc (.cells #[.int .u8 kp, .int .i64 ip, .int .i64 vp] 53)).alloc (.cells #[.int .u8 kq, .int .i64 iq, .int .i64 vq] 53)) h
  unfold Cf.val at hg ⊢
  have HGN := Lib.hid hg
  clear h hb hg
  go_enter Try.func5, Try.ntmps5
  go_wp2_with fail
  refine HGN.out.mono ?_
  rintro e w1 ⟨p, rfl, hG, hp, hb⟩
  have hBk := (((Blk.new w #[.int .i64 (c.N : Int), .int .i64 (c.W : Int), .int .i64 (c.R : Int), .int .i64 (c.K : Int)] 23).alloc (.cells #[.int .u8 kp, .int .i64 ip, .int .i64 vp] 53)).alloc (.cells #[.int .u8 kq, .int .i64 iq, .int .i64 vq] 53)).later hb
  have c0 := hBk.cell 0 rfl
  have c1 := hBk.cell 1 rfl
  have c2 := hBk.cell 2 rfl
  have c3 := hBk.cell 3 rfl
  have HE : Hid (EA w w1 (w.heap.size + 1) (w.heap.size + 2) p c ⟨List.replicate c.size 0, 0⟩ kp ip vp kq iq vq) := Lib.hid ⟨hG, by
      have := ((Blk.new (w.alloc (.cells #[.int .i64 (c.N : Int), .int .i64 (c.W : Int), .int .i64 (c.R : Int), .int .i64 (c.K : Int)] 23)) #[.int .u8 kp, .int .i64 ip, .int .i64 vp] 53).alloc (.cells #[.int .u8 kq, .int .i64 iq, .int .i64 vq] 53)).later hb
      simpa using this, by
      have := (Blk.new ((w.alloc (.cells #[.int .i64 (c.N : Int), .int .i64 (c.W : Int), .int .i64 (c.R : Int), .int .i64 (c.K : Int)] 23)).alloc (.cells #[.int .u8 kp, .int .i64 ip, .int .i64 vp] 53)) #[.int .u8 kq, .int .i64 iq, .int .i64 vq] 53).later hb
      simpa using this, (fun hx => by have := hp _ hx; simp at this; omega), (fun hx => by have := hp _ hx; simp at this; omega), by omega, by omega, by omega, (fun k hk => by have := hp k hk; simp at this; omega), (((below_new w _).alloc (by simp) _).alloc (by simp; omega) _).trans (hb.mono (by simp; omega))⟩
  clear hb hBk hG hp
  go_wp2_with fail
  refine (asB (little_any _ _ _ _ _) HL.out).mono ?_
  rintro e w2 ⟨rfl, hb⟩
  have HE2 := Lib.hid (HE.out.later hb)
  have y10 := HE2.out.x1.cell 0 rfl
  have y11 := HE2.out.x1.cell 1 rfl
  have y12 := HE2.out.x1.cell 2 rfl
  have y20 := HE2.out.x2.cell 0 rfl
  have y21 := HE2.out.x2.cell 1 rfl
  have y22 := HE2.out.x2.cell 2 rfl
  have f1 := HE2.out.x1.free 2
  have f2 := HE2.out.x2.free 2
  clear hb c0 c1 c2 c3
  go_upto_region 10 with fail
  have HE3 := Lib.hid (HE2.out.set1 0)
  clear y10 y11 y12 y20 y21 y22 f1 f2
  have y10 := HE3.out.x1.cell 0 rfl
  have y11 := HE3.out.x1.cell 1 rfl
  have y12 := HE3.out.x1.cell 2 rfl
  have y20 := HE3.out.x2.cell 0 rfl
  have y21 := HE3.out.x2.cell 1 rfl
  have y22 := HE3.out.x2.cell 2 rfl
  go_cut [65] (fun s65 wx => (s65 = .bool true ∧ Below w.heap.size w wx) ∨ (s65 = .bool false ∧ Tail w wx (w.heap.size + 1) (w.heap.size + 2) p c kp ip 0 kq iq vq))
  case first =>
    cases hp : placeA c kp ip 0 with
    | none =>
      go_wp2_with fail
      refine (putV p c _ kp ip 0 5 _ HE3.out.gd (by decide) (by decide) hp).mono ?_
      rintro e w4 ⟨rfl, hG, hT⟩
      have HE4 := Lib.hid (HE3.out.step hG hT)
      clear hG hT
      go_wp2_with fail
      go_meet
      exact .inl ⟨rfl, HE4.out.bel⟩
    | some a =>
      have HPA := Lib.hid hp
      clear hp
      go_wp2_with fail
      refine (putV p c _ kp ip 0 5 _ HE3.out.gd (by decide) (by decide) HPA.out).mono ?_
      rintro e w4 ⟨rfl, hG, hT⟩
      have HE4 := Lib.hid (HE3.out.step hG hT)
      clear hG hT y10 y11 y12 y20 y21 y22
      have y10 := HE4.out.x1.cell 0 rfl
      have y11 := HE4.out.x1.cell 1 rfl
      have y12 := HE4.out.x1.cell 2 rfl
      have y20 := HE4.out.x2.cell 0 rfl
      have y21 := HE4.out.x2.cell 1 rfl
      have y22 := HE4.out.x2.cell 2 rfl
      by_cases heq : kp = kq ∧ ip = iq ∧ (0 : Int) = vq
      · obtain ⟨e1, e2, e3⟩ := heq
        subst e1 e2
        try subst e3
        go_wp2_with fail
        go_meet
        exact .inl ⟨rfl, HE4.out.bel⟩
      have HNE : Hid (∀ b, placeA c kq iq vq = some b → a ≠ b) := Lib.hid fun b hb e => heq (by have := HI.out a HPA.out (by rw [e]; exact hb); simpa using this)
      clear HI
      by_cases q1 : kq = kp
      · subst q1
        by_cases q2 : iq = ip
        · subst q2
          have q3 : ¬ (0 : Int) = vq := fun e => heq ⟨rfl, rfl, e⟩
          have q3b : ((0 : Int) == vq) = false := bne_of' q3
          clear heq
          cases hq : placeA c kq iq vq with
          | none =>
            have HQ := Lib.hid hq
            clear hq
            go_wp2_with fail
            refine (putV p c _ _ _ _ 6 _ HE4.out.gd (by decide) (by decide) HQ.out).mono ?_
            rintro e w5 ⟨rfl, hG, hT⟩
            have HE5 := Lib.hid (HE4.out.step hG hT)
            clear hG hT
            go_wp2_with fail
            go_meet
            exact .inl ⟨rfl, HE5.out.bel⟩
          | some b =>
            have HQ := Lib.hid hq
            clear hq
            go_wp2_with fail
            refine (putV p c _ _ _ _ 6 _ HE4.out.gd (by decide) (by decide) HQ.out).mono ?_
            rintro e w5 ⟨rfl, hG, hT⟩
            have HE5 := Lib.hid (HE4.out.step hG hT)
            clear hG hT
            go_wp2_with fail
            go_meet
            exact .inr ⟨rfl, a, b, HPA.out, HQ.out, HNE.out b HQ.out, HE5.out⟩
        · have q2b : (ip == iq) = false := bne_of' (Ne.symm q2)
          have q2c : ¬ ip = iq := Ne.symm q2
          clear heq q2
          cases hq : placeA c kq iq vq with
          | none =>
            have HQ := Lib.hid hq
            clear hq
            go_wp2_with fail
            refine (putV p c _ _ _ _ 6 _ HE4.out.gd (by decide) (by decide) HQ.out).mono ?_
            rintro e w5 ⟨rfl, hG, hT⟩
            have HE5 := Lib.hid (HE4.out.step hG hT)
            clear hG hT
            go_wp2_with fail
            go_meet
            exact .inl ⟨rfl, HE5.out.bel⟩
          | some b =>
            have HQ := Lib.hid hq
            clear hq
            go_wp2_with fail
            refine (putV p c _ _ _ _ 6 _ HE4.out.gd (by decide) (by decide) HQ.out).mono ?_
            rintro e w5 ⟨rfl, hG, hT⟩
            have HE5 := Lib.hid (HE4.out.step hG hT)
            clear hG hT
            go_wp2_with fail
            go_meet
            exact .inr ⟨rfl, a, b, HPA.out, HQ.out, HNE.out b HQ.out, HE5.out⟩
      · have q1b : (kp == kq) = false := bne_of' (Ne.symm q1)
        have q1c : ¬ kp = kq := Ne.symm q1
        clear heq q1
        cases hq : placeA c kq iq vq with
        | none =>
          have HQ := Lib.hid hq
          clear hq
          go_wp2_with fail
          refine (putV p c _ _ _ _ 6 _ HE4.out.gd (by decide) (by decide) HQ.out).mono ?_
          rintro e w5 ⟨rfl, hG, hT⟩
          have HE5 := Lib.hid (HE4.out.step hG hT)
          clear hG hT
          go_wp2_with fail
          go_meet
          exact .inl ⟨rfl, HE5.out.bel⟩
        | some b =>
          have HQ := Lib.hid hq
          clear hq
          go_wp2_with fail
          refine (putV p c _ _ _ _ 6 _ HE4.out.gd (by decide) (by decide) HQ.out).mono ?_
          rintro e w5 ⟨rfl, hG, hT⟩
          have HE5 := Lib.hid (HE4.out.step hG hT)
          clear hG hT
          go_wp2_with fail
          go_meet
          exact .inr ⟨rfl, a, b, HPA.out, HQ.out, HNE.out b HQ.out, HE5.out⟩
  case rest =>
    clear y10 y11 y12 y20 y21 y22
    rcases hcut with ⟨rfl, hb⟩ | ⟨rfl, a, b, hpa, hqa, hab, hE⟩
    · have HB := Lib.hid hb
      clear hb
      go_wp2_with fail
      refine (begun5_any _).mono ?_
      rintro e w6 ⟨rfl, hb⟩
      have HB6 := Lib.hid (below_step HB.out hb)
      clear hb
      go_wp2_with fail
      go_ret
      exact ⟨rfl, HB6.out⟩
    · have HPA := Lib.hid hpa
      have HQ := Lib.hid hqa
      have HAB := Lib.hid hab
      have HE5 := Lib.hid hE
      have HA : Hid (a < c.size ∧ b < c.size) := Lib.hid ⟨placeA_lt hpa, placeA_lt hqa⟩
      clear hpa hqa hab hE
      have HZ : Hid (∃ zs : List Int, zs = ((List.replicate c.size 0).set a 5).set b 6) := Lib.hid ⟨_, rfl⟩
      obtain ⟨zs, hzs⟩ := HZ.out
      rw [← hzs] at HE5
      have HZS := Lib.hid hzs
      have hzl : zs.length = c.size := by rw [hzs]; simp
      have HZL := Lib.hid hzl
      clear hzs HZ hzl
      go_wp2_with fail
      refine (gwordsN p c _ _ HE5.out.gd (n := c.size) HZL.out).mono ?_
      rintro e w6 ⟨u, rfl, hu, hu2, hb⟩
      have HU : Hid (Blk w6 u (words zs) 50) := Lib.hid hu
      have HE6 := Lib.hid (HE5.out.later hb)
      have hsz := HM.out.size
      clear hu hu2 hb
      go_wp2_with fail
      go_loop [9, 70] (fun t i => ∃ k : Nat, k ≤ c.size ∧ i = .int .i64 k ∧ t = .int .i64 (nzTo zs k : Int)) (fun _ i => c.size - (intOf i).toNat)
      case atStart => exact ⟨0, Nat.zero_le _, rfl, rfl⟩
      case round =>
        obtain ⟨k, hk, rfl, rfl⟩ := hrel
        by_cases hlt : k < c.size
        · have i0 : (0 : Int) ≤ (k : Int) := by omega
          have i1 : (k : Int) < (c.size : Int) := by omega
          have hle := nzTo_le zs k
          have hcc : w6.cell? ⟨u, k, none⟩ = some (.int .u32 (nth zs k)) := HU.out.cell k (words_get (by rw [HZL.out]; exact hlt))
          have hwr : IntKind.i64.wrap ((nzTo zs k : Int) + 1) = (nzTo zs k : Int) + 1 := IntWalk.i64_in _ (by omega)
          by_cases hz : nth zs k = 0
          · rw [hz] at hcc
            have HS : Hid (nzTo zs (k + 1) = nzTo zs k) := Lib.hid (by show _ + (if _ then _ else _) = _; rw [if_pos hz]; omega)
            clear hz
            go_wp2_with fail
            go_round
            case rel => exact ⟨k + 1, by omega, by go_num, by rw [HS.out]⟩
            case measure => simp [intOf]; omega
          · have HS : Hid (nzTo zs (k + 1) = nzTo zs k + 1) := Lib.hid (by show _ + (if _ then _ else _) = _; rw [if_neg hz])
            have hzb : (nth zs k == 0) = false := bne_of' hz
            clear hz
            go_wp2_with fail
            go_round
            case rel => exact ⟨k + 1, by omega, by go_num, by rw [HS.out]; simp⟩
            case measure => simp [intOf]; omega
        · obtain rfl : k = c.size := by omega
          have hn2 : nzTo zs c.size = 2 := by rw [HZS.out, nzTo_two c.size a b 5 6 (by decide) (by decide) HA.out.1 HA.out.2 HAB.out, if_pos HA.out.1, if_pos HA.out.2]
          rw [hn2]
          have HXA : Hid (nth zs a = 5) := Lib.hid (by rw [HZS.out, nth_set_ne (Ne.symm HAB.out), nth_set_eq (by simpa using HA.out.1)])
          have HXB : Hid (nth zs b = 6) := Lib.hid (by rw [HZS.out, nth_set_eq (by simpa using HA.out.2)])
          clear hn2
          have y10 := HE6.out.x1.cell 0 rfl
          have y11 := HE6.out.x1.cell 1 rfl
          have y12 := HE6.out.x1.cell 2 rfl
          have y20 := HE6.out.x2.cell 0 rfl
          have y21 := HE6.out.x2.cell 1 rfl
          have y22 := HE6.out.x2.cell 2 rfl
          go_wp2_with fail
          refine (getV p c _ _ _ _ _ HE6.out.gd HPA.out HXA.out).mono ?_
          rintro e w7 ⟨rfl, hG, hT⟩
          have HE7 := Lib.hid (HE6.out.step hG hT)
          clear hG hT y10 y11 y12 y20 y21 y22
          have y20 := HE7.out.x2.cell 0 rfl
          have y21 := HE7.out.x2.cell 1 rfl
          have y22 := HE7.out.x2.cell 2 rfl
          go_wp2_with fail
          refine (getV p c _ _ _ _ _ HE7.out.gd HQ.out HXB.out).mono ?_
          rintro e w8 ⟨rfl, hG, hT⟩
          have HE8 := Lib.hid (HE7.out.step hG hT)
          clear hG hT y20 y21 y22
          go_wp2_with fail
          refine (begun5_any _).mono ?_
          rintro e w9 ⟨rfl, hb⟩
          have HB9 := Lib.hid (below_step HE8.out.bel hb)
          clear hb
          go_wp2_with fail
          go_ret
          exact ⟨rfl, HB9.out⟩
set_option maxRecDepth 100000 in
set_option maxHeartbeats 2000000 in
theorem walk_in11 (c : Cf) (kp ip vp kq iq vq : Int) (w : World) (h : c.May) (hb : littleB c.N c.W c.R = true) (h1 : ¬ 2 < kp) (h2 : ¬ 2 < kq) (h3 : kp < 2) (h4 : kq < 2) (h5 : 0 ≤ kp) (h6 : 0 ≤ kq) :
    Calls Try.prog 5 #[c.val, .agg #[.int .u8 kp, .int .i64 ip, .int .i64 vp], .agg #[.int .u8 kq, .int .i64 iq, .int .i64 vq]] w fun e w' => e = .returned (.bool true) ∧ Below w.heap.size w w' := by
  have dk : decide (2 < kp) = false := by simp; omega
  have dk2 : decide (2 < kq) = false := by simp; omega
  have dl : decide (kp < 2) = true := by simp [h3]
  have dl2 : decide (kq < 2) = true := by simp [h4]
  have e1 : nrm kp vp = 0 := by unfold nrm; rw [if_pos h3]
  have e2 : nrm kq vq = 0 := by unfold nrm; rw [if_pos h4]
  have hinj : ∀ j, placeA c kp ip 0 = some j → placeA c kq iq 0 = some j → kp = kq ∧ ip = iq ∧ (0 : Int) = 0 := fun j ha hb => by
    have := placeA_inj (c := c) (k := kp) (i := ip) (v := vp) (k' := kq) (i' := iq) (v' := vq) (j := j) h5 (by omega) h6 (by omega) (by rw [e1]; exact ha) (by rw [e2]; exact hb)
    rwa [e1, e2] at this
  have HI := Lib.hid hinj
  clear h1 h2 h3 h4 h5 h6 e1 e2 hinj
  have HM := Lib.hid h
  have HL := Lib.hid hb
  have hg := gnew_yes c (((w.alloc (.cells #[.int .i64 (c.N : Int), .int .i64 (c.W : Int), .int .i64 (c.R : Int), .int .i64 (c.K : Int)] 23)).alloc (.cells #[.int .u8 kp, .int .i64 ip, .int .i64 vp] 53)).alloc (.cells #[.int .u8 kq, .int .i64 iq, .int .i64 vq] 53)) h
  unfold Cf.val at hg ⊢
  have HGN := Lib.hid hg
  clear h hb hg
  go_enter Try.func5, Try.ntmps5
  go_wp2_with fail
  refine HGN.out.mono ?_
  rintro e w1 ⟨p, rfl, hG, hp, hb⟩
  have hBk := (((Blk.new w #[.int .i64 (c.N : Int), .int .i64 (c.W : Int), .int .i64 (c.R : Int), .int .i64 (c.K : Int)] 23).alloc (.cells #[.int .u8 kp, .int .i64 ip, .int .i64 vp] 53)).alloc (.cells #[.int .u8 kq, .int .i64 iq, .int .i64 vq] 53)).later hb
  have c0 := hBk.cell 0 rfl
  have c1 := hBk.cell 1 rfl
  have c2 := hBk.cell 2 rfl
  have c3 := hBk.cell 3 rfl
  have HE : Hid (EA w w1 (w.heap.size + 1) (w.heap.size + 2) p c ⟨List.replicate c.size 0, 0⟩ kp ip vp kq iq vq) := Lib.hid ⟨hG, by
      have := ((Blk.new (w.alloc (.cells #[.int .i64 (c.N : Int), .int .i64 (c.W : Int), .int .i64 (c.R : Int), .int .i64 (c.K : Int)] 23)) #[.int .u8 kp, .int .i64 ip, .int .i64 vp] 53).alloc (.cells #[.int .u8 kq, .int .i64 iq, .int .i64 vq] 53)).later hb
      simpa using this, by
      have := (Blk.new ((w.alloc (.cells #[.int .i64 (c.N : Int), .int .i64 (c.W : Int), .int .i64 (c.R : Int), .int .i64 (c.K : Int)] 23)).alloc (.cells #[.int .u8 kp, .int .i64 ip, .int .i64 vp] 53)) #[.int .u8 kq, .int .i64 iq, .int .i64 vq] 53).later hb
      simpa using this, (fun hx => by have := hp _ hx; simp at this; omega), (fun hx => by have := hp _ hx; simp at this; omega), by omega, by omega, by omega, (fun k hk => by have := hp k hk; simp at this; omega), (((below_new w _).alloc (by simp) _).alloc (by simp; omega) _).trans (hb.mono (by simp; omega))⟩
  clear hb hBk hG hp
  go_wp2_with fail
  refine (asB (little_any _ _ _ _ _) HL.out).mono ?_
  rintro e w2 ⟨rfl, hb⟩
  have HE2 := Lib.hid (HE.out.later hb)
  have y10 := HE2.out.x1.cell 0 rfl
  have y11 := HE2.out.x1.cell 1 rfl
  have y12 := HE2.out.x1.cell 2 rfl
  have y20 := HE2.out.x2.cell 0 rfl
  have y21 := HE2.out.x2.cell 1 rfl
  have y22 := HE2.out.x2.cell 2 rfl
  have f1 := HE2.out.x1.free 2
  have f2 := HE2.out.x2.free 2
  clear hb c0 c1 c2 c3
  go_upto_region 10 with fail
  have HE3 := Lib.hid ((HE2.out.set1 0).set2 0)
  clear y10 y11 y12 y20 y21 y22 f1 f2
  have y10 := HE3.out.x1.cell 0 rfl
  have y11 := HE3.out.x1.cell 1 rfl
  have y12 := HE3.out.x1.cell 2 rfl
  have y20 := HE3.out.x2.cell 0 rfl
  have y21 := HE3.out.x2.cell 1 rfl
  have y22 := HE3.out.x2.cell 2 rfl
  go_cut [65] (fun s65 wx => (s65 = .bool true ∧ Below w.heap.size w wx) ∨ (s65 = .bool false ∧ Tail w wx (w.heap.size + 1) (w.heap.size + 2) p c kp ip 0 kq iq 0))
  case first =>
    cases hp : placeA c kp ip 0 with
    | none =>
      go_wp2_with fail
      refine (putV p c _ kp ip 0 5 _ HE3.out.gd (by decide) (by decide) hp).mono ?_
      rintro e w4 ⟨rfl, hG, hT⟩
      have HE4 := Lib.hid (HE3.out.step hG hT)
      clear hG hT
      go_wp2_with fail
      go_meet
      exact .inl ⟨rfl, HE4.out.bel⟩
    | some a =>
      have HPA := Lib.hid hp
      clear hp
      go_wp2_with fail
      refine (putV p c _ kp ip 0 5 _ HE3.out.gd (by decide) (by decide) HPA.out).mono ?_
      rintro e w4 ⟨rfl, hG, hT⟩
      have HE4 := Lib.hid (HE3.out.step hG hT)
      clear hG hT y10 y11 y12 y20 y21 y22
      have y10 := HE4.out.x1.cell 0 rfl
      have y11 := HE4.out.x1.cell 1 rfl
      have y12 := HE4.out.x1.cell 2 rfl
      have y20 := HE4.out.x2.cell 0 rfl
      have y21 := HE4.out.x2.cell 1 rfl
      have y22 := HE4.out.x2.cell 2 rfl
      by_cases heq : kp = kq ∧ ip = iq ∧ (0 : Int) = 0
      · obtain ⟨e1, e2, e3⟩ := heq
        subst e1 e2
        try subst e3
        go_wp2_with fail
        go_meet
        exact .inl ⟨rfl, HE4.out.bel⟩
      have HNE : Hid (∀ b, placeA c kq iq 0 = some b → a ≠ b) := Lib.hid fun b hb e => heq (by have := HI.out a HPA.out (by rw [e]; exact hb); simpa using this)
      clear HI
      by_cases q1 : kq = kp
      · subst q1
        by_cases q2 : iq = ip
        · subst q2
          have q3 : ¬ (0 : Int) = 0 := fun e => heq ⟨rfl, rfl, e⟩
          exact absurd rfl q3
        · have q2b : (ip == iq) = false := bne_of' (Ne.symm q2)
          have q2c : ¬ ip = iq := Ne.symm q2
          clear heq q2
          cases hq : placeA c kq iq 0 with
          | none =>
            have HQ := Lib.hid hq
            clear hq
            go_wp2_with fail
            refine (putV p c _ _ _ _ 6 _ HE4.out.gd (by decide) (by decide) HQ.out).mono ?_
            rintro e w5 ⟨rfl, hG, hT⟩
            have HE5 := Lib.hid (HE4.out.step hG hT)
            clear hG hT
            go_wp2_with fail
            go_meet
            exact .inl ⟨rfl, HE5.out.bel⟩
          | some b =>
            have HQ := Lib.hid hq
            clear hq
            go_wp2_with fail
            refine (putV p c _ _ _ _ 6 _ HE4.out.gd (by decide) (by decide) HQ.out).mono ?_
            rintro e w5 ⟨rfl, hG, hT⟩
            have HE5 := Lib.hid (HE4.out.step hG hT)
            clear hG hT
            go_wp2_with fail
            go_meet
            exact .inr ⟨rfl, a, b, HPA.out, HQ.out, HNE.out b HQ.out, HE5.out⟩
      · have q1b : (kp == kq) = false := bne_of' (Ne.symm q1)
        have q1c : ¬ kp = kq := Ne.symm q1
        clear heq q1
        cases hq : placeA c kq iq 0 with
        | none =>
          have HQ := Lib.hid hq
          clear hq
          go_wp2_with fail
          refine (putV p c _ _ _ _ 6 _ HE4.out.gd (by decide) (by decide) HQ.out).mono ?_
          rintro e w5 ⟨rfl, hG, hT⟩
          have HE5 := Lib.hid (HE4.out.step hG hT)
          clear hG hT
          go_wp2_with fail
          go_meet
          exact .inl ⟨rfl, HE5.out.bel⟩
        | some b =>
          have HQ := Lib.hid hq
          clear hq
          go_wp2_with fail
          refine (putV p c _ _ _ _ 6 _ HE4.out.gd (by decide) (by decide) HQ.out).mono ?_
          rintro e w5 ⟨rfl, hG, hT⟩
          have HE5 := Lib.hid (HE4.out.step hG hT)
          clear hG hT
          go_wp2_with fail
          go_meet
          exact .inr ⟨rfl, a, b, HPA.out, HQ.out, HNE.out b HQ.out, HE5.out⟩
  case rest =>
    clear y10 y11 y12 y20 y21 y22
    rcases hcut with ⟨rfl, hb⟩ | ⟨rfl, a, b, hpa, hqa, hab, hE⟩
    · have HB := Lib.hid hb
      clear hb
      go_wp2_with fail
      refine (begun5_any _).mono ?_
      rintro e w6 ⟨rfl, hb⟩
      have HB6 := Lib.hid (below_step HB.out hb)
      clear hb
      go_wp2_with fail
      go_ret
      exact ⟨rfl, HB6.out⟩
    · have HPA := Lib.hid hpa
      have HQ := Lib.hid hqa
      have HAB := Lib.hid hab
      have HE5 := Lib.hid hE
      have HA : Hid (a < c.size ∧ b < c.size) := Lib.hid ⟨placeA_lt hpa, placeA_lt hqa⟩
      clear hpa hqa hab hE
      have HZ : Hid (∃ zs : List Int, zs = ((List.replicate c.size 0).set a 5).set b 6) := Lib.hid ⟨_, rfl⟩
      obtain ⟨zs, hzs⟩ := HZ.out
      rw [← hzs] at HE5
      have HZS := Lib.hid hzs
      have hzl : zs.length = c.size := by rw [hzs]; simp
      have HZL := Lib.hid hzl
      clear hzs HZ hzl
      go_wp2_with fail
      refine (gwordsN p c _ _ HE5.out.gd (n := c.size) HZL.out).mono ?_
      rintro e w6 ⟨u, rfl, hu, hu2, hb⟩
      have HU : Hid (Blk w6 u (words zs) 50) := Lib.hid hu
      have HE6 := Lib.hid (HE5.out.later hb)
      have hsz := HM.out.size
      clear hu hu2 hb
      go_wp2_with fail
      go_loop [9, 70] (fun t i => ∃ k : Nat, k ≤ c.size ∧ i = .int .i64 k ∧ t = .int .i64 (nzTo zs k : Int)) (fun _ i => c.size - (intOf i).toNat)
      case atStart => exact ⟨0, Nat.zero_le _, rfl, rfl⟩
      case round =>
        obtain ⟨k, hk, rfl, rfl⟩ := hrel
        by_cases hlt : k < c.size
        · have i0 : (0 : Int) ≤ (k : Int) := by omega
          have i1 : (k : Int) < (c.size : Int) := by omega
          have hle := nzTo_le zs k
          have hcc : w6.cell? ⟨u, k, none⟩ = some (.int .u32 (nth zs k)) := HU.out.cell k (words_get (by rw [HZL.out]; exact hlt))
          have hwr : IntKind.i64.wrap ((nzTo zs k : Int) + 1) = (nzTo zs k : Int) + 1 := IntWalk.i64_in _ (by omega)
          by_cases hz : nth zs k = 0
          · rw [hz] at hcc
            have HS : Hid (nzTo zs (k + 1) = nzTo zs k) := Lib.hid (by show _ + (if _ then _ else _) = _; rw [if_pos hz]; omega)
            clear hz
            go_wp2_with fail
            go_round
            case rel => exact ⟨k + 1, by omega, by go_num, by rw [HS.out]⟩
            case measure => simp [intOf]; omega
          · have HS : Hid (nzTo zs (k + 1) = nzTo zs k + 1) := Lib.hid (by show _ + (if _ then _ else _) = _; rw [if_neg hz])
            have hzb : (nth zs k == 0) = false := bne_of' hz
            clear hz
            go_wp2_with fail
            go_round
            case rel => exact ⟨k + 1, by omega, by go_num, by rw [HS.out]; simp⟩
            case measure => simp [intOf]; omega
        · obtain rfl : k = c.size := by omega
          have hn2 : nzTo zs c.size = 2 := by rw [HZS.out, nzTo_two c.size a b 5 6 (by decide) (by decide) HA.out.1 HA.out.2 HAB.out, if_pos HA.out.1, if_pos HA.out.2]
          rw [hn2]
          have HXA : Hid (nth zs a = 5) := Lib.hid (by rw [HZS.out, nth_set_ne (Ne.symm HAB.out), nth_set_eq (by simpa using HA.out.1)])
          have HXB : Hid (nth zs b = 6) := Lib.hid (by rw [HZS.out, nth_set_eq (by simpa using HA.out.2)])
          clear hn2
          have y10 := HE6.out.x1.cell 0 rfl
          have y11 := HE6.out.x1.cell 1 rfl
          have y12 := HE6.out.x1.cell 2 rfl
          have y20 := HE6.out.x2.cell 0 rfl
          have y21 := HE6.out.x2.cell 1 rfl
          have y22 := HE6.out.x2.cell 2 rfl
          go_wp2_with fail
          refine (getV p c _ _ _ _ _ HE6.out.gd HPA.out HXA.out).mono ?_
          rintro e w7 ⟨rfl, hG, hT⟩
          have HE7 := Lib.hid (HE6.out.step hG hT)
          clear hG hT y10 y11 y12 y20 y21 y22
          have y20 := HE7.out.x2.cell 0 rfl
          have y21 := HE7.out.x2.cell 1 rfl
          have y22 := HE7.out.x2.cell 2 rfl
          go_wp2_with fail
          refine (getV p c _ _ _ _ _ HE7.out.gd HQ.out HXB.out).mono ?_
          rintro e w8 ⟨rfl, hG, hT⟩
          have HE8 := Lib.hid (HE7.out.step hG hT)
          clear hG hT y20 y21 y22
          go_wp2_with fail
          refine (begun5_any _).mono ?_
          rintro e w9 ⟨rfl, hb⟩
          have HB9 := Lib.hid (below_step HE8.out.bel hb)
          clear hb
          go_wp2_with fail
          go_ret
          exact ⟨rfl, HB9.out⟩
theorem walk (n v r k kp ip vp kq iq vq : Int) (w : World) (hn : (Lit.int .i64 n).wf = true) (hv : (Lit.int .i64 v).wf = true) (hr : (Lit.int .i64 r).wf = true) (hk : (Lit.int .i64 k).wf = true) (w0 : (Lit.int .u8 kp).wf = true) (w1 : (Lit.int .i64 ip).wf = true) (w2 : (Lit.int .i64 vp).wf = true) (w3 : (Lit.int .u8 kq).wf = true) (w4 : (Lit.int .i64 iq).wf = true) (w5 : (Lit.int .i64 vq).wf = true) :
    Calls Try.prog 5 #[.agg #[.int .i64 n, .int .i64 v, .int .i64 r, .int .i64 k], .agg #[.int .u8 kp, .int .i64 ip, .int .i64 vp], .agg #[.int .u8 kq, .int .i64 iq, .int .i64 vq]] w fun e w' => e = .returned (.bool true) ∧ Below w.heap.size w w' := by
  have k0 : 0 ≤ kp := by simp [Lit.wf, IntKind.min, IntKind.max, IntKind.signed, IntKind.bits] at w0; omega
  have k0' : 0 ≤ kq := by simp [Lit.wf, IntKind.min, IntKind.max, IntKind.signed, IntKind.bits] at w3; omega
  cases h : mayB n v r k with
  | false => exact walk_no n v r k kp ip vp kq iq vq w h
  | true =>
    obtain ⟨c, hc, rfl, rfl, rfl, rfl⟩ := cf_of h
    cases hb : littleB c.N c.W c.R with
    | false => exact walk_big c kp ip vp kq iq vq w hc hb
    | true =>
      by_cases h1 : 2 < kp
      · exact walk_out1 c kp ip vp kq iq vq w hc hb h1
      by_cases h2 : 2 < kq
      · exact walk_out2 c kp ip vp kq iq vq w hc hb h1 h2
      by_cases h3 : kp < 2
      · by_cases h4 : kq < 2
        · exact walk_in11 c kp ip vp kq iq vq w hc hb h1 h2 h3 h4 k0 k0'
        · exact walk_in10 c kp ip vp kq iq vq w hc hb h1 h2 h3 h4 k0 k0'
      · by_cases h4 : kq < 2
        · exact walk_in01 c kp ip vp kq iq vq w hc hb h1 h2 h3 h4 k0 k0'
        · exact walk_in00 c kp ip vp kq iq vq w hc hb h1 h2 h3 h4 k0 k0'

/-! ### The row -/
set_option maxRecDepth 100000 in
theorem lifted (os : Os) (started : os.Started) (H : Type) (enc : TypeId × Value → H) :
    ReturnsInHanded {} Try.checked os 5 .any (Rows.groundApartSpec.pre6 enc Try.prog Try.f5 Rows.groundApartRow.domain false) (Rows.groundApartSpec.post enc Try.prog Try.f5 false true false false) := by
  refine returnsInHanded_of_change (C := Try.checked) own started (by kernel_rfl) Try.func5
    (ChangeSpec.witness6 (enc := enc) (C := Try.checked) false ⟨#[], #[.agg #[.int .i64 0, .int .i64 0, .int .i64 0, .int .i64 0], .agg #[.int .u8 0, .int .i64 0, .int .i64 0], .agg #[.int .u8 0, .int .i64 0, .int .i64 0]], []⟩ 8 (by kernel_rfl) (by kernel_rfl) (by kernel_rfl) (by kernel_rfl)) ?_
  intro W base args ds gs before hval0 hW hcnd _
  have hval : ∀ (j : Nat) t v, Try.f5.params[j]? = some t → args[j]? = some v → Value.okWide Try.prog W .any base t v := hval0
  have hW' := hW
  obtain ⟨p, q, hA0, hV, rfl, hfz, hnd⟩ := hW
  have hA : DataW.TrodAll enc Try.prog W 0 (fun _ => true) true Try.f5.params.toList args.toList ds p := hA0
  rw [Try.params5] at hA hval
  obtain ⟨v0, vs0, d0, ds0, p0, q0, hargs, rfl, rfl, h0, r0⟩ := trodAll_cons hA
  obtain ⟨v1, vs1, d1, ds1, p1, q1, rfl, rfl, rfl, h1, r1⟩ := trodAll_cons r0
  obtain ⟨v2, vs2, d2, ds2, p2, q2, rfl, rfl, rfl, h2, r2⟩ := trodAll_cons r1
  obtain ⟨rfl, rfl, rfl⟩ := trodAll_nil r2
  obtain rfl : args = #[v0, v1, v2] := by cases args; simp_all
  obtain ⟨rfl, rfl⟩ := trodVars_none hV
  have k0 := h0
  have lt0 : ∀ x ∈ p0, x.block < W.heap.size := by obtain ⟨m, hm⟩ := k0; exact DataW.trod_lt m _ _ _ hm
  obtain ⟨c00, c01, c02, c03, y00, y01, y02, y03, m0, rfl, hd0, hp0, hy00, hy01, hy02, hy03⟩ := open_agg4 Try.underlying23 (by kernel_rfl) (by kernel_rfl) (hval 0 23 v0 rfl rfl) h0
  obtain ⟨a00, e00, hdd00, w00⟩ := DataW.trod_int Try.underlying3 hy00
  obtain ⟨a01, e01, hdd01, w01⟩ := DataW.trod_int Try.underlying3 hy01
  obtain ⟨a02, e02, hdd02, w02⟩ := DataW.trod_int Try.underlying3 hy02
  obtain ⟨a03, e03, hdd03, w03⟩ := DataW.trod_int Try.underlying3 hy03
  simp at e00 e01 e02 e03
  subst e00 e01 e02 e03
  have k1 := h1
  have lt1 : ∀ x ∈ p1, x.block < W.heap.size := by obtain ⟨m, hm⟩ := k1; exact DataW.trod_lt m _ _ _ hm
  obtain ⟨c10, c11, c12, y10, y11, y12, m1, rfl, hd1, hp1, hy10, hy11, hy12⟩ := open_agg3 Try.underlying53 (by kernel_rfl) (by kernel_rfl) (hval 1 53 v1 rfl rfl) h1
  obtain ⟨a10, e10, hdd10, w10⟩ := DataW.trod_int Try.underlying5 hy10
  obtain ⟨a11, e11, hdd11, w11⟩ := DataW.trod_int Try.underlying3 hy11
  obtain ⟨a12, e12, hdd12, w12⟩ := DataW.trod_int Try.underlying3 hy12
  simp at e10 e11 e12
  subst e10 e11 e12
  have k2 := h2
  have lt2 : ∀ x ∈ p2, x.block < W.heap.size := by obtain ⟨m, hm⟩ := k2; exact DataW.trod_lt m _ _ _ hm
  obtain ⟨c20, c21, c22, y20, y21, y22, m2, rfl, hd2, hp2, hy20, hy21, hy22⟩ := open_agg3 Try.underlying53 (by kernel_rfl) (by kernel_rfl) (hval 2 53 v2 rfl rfl) h2
  obtain ⟨a20, e20, hdd20, w20⟩ := DataW.trod_int Try.underlying5 hy20
  obtain ⟨a21, e21, hdd21, w21⟩ := DataW.trod_int Try.underlying3 hy21
  obtain ⟨a22, e22, hdd22, w22⟩ := DataW.trod_int Try.underlying3 hy22
  simp at e20 e21 e22
  subst e20 e21 e22
  clear hA0 hval0
  refine (walk a00 a01 a02 a03 a10 a11 a12 a20 a21 a22 W w00 w01 w02 w03 w10 w11 w12 w20 w21 w22).mono fun e W' ⟨he, bel⟩ => ?_
  subst he
  exact ⟨_, rfl, _, _, _, [], _, [], hW', trodAll_mk1 (shut_bool Try.underlying4 _), (trodAll_cons_mk (Below.trod laidOut (by kernel_rfl) (of_decide_eq_true (by kernel_rfl)) k0 bel lt0) (trodAll_cons_mk (Below.trod laidOut (by kernel_rfl) (of_decide_eq_true (by kernel_rfl)) k1 bel lt1) (trodAll_cons_mk (Below.trod laidOut (by kernel_rfl) (of_decide_eq_true (by kernel_rfl)) k2 bel lt2) trodAll_mk0))), rfl, bel.frame _, fun h => by cases h⟩

theorem over : Rows.groundApartRow.holds Try.pinned (OpenSpec.ofChange Rows.groundApartSpec) :=
  OpenClaim.holds_of_wide 5 Try.f5 rfl rfl rfl rfl rfl rfl rfl ⟨rfl, rfl, rfl, rfl, rfl⟩ rfl rfl rfl rfl rfl (by kernel_rfl) Try.func5 (by kernel_rfl)
    (of_decide_eq_true (by kernel_rfl)) (by unfold Func.isWrapper; first | (rw [if_pos (by decide +kernel)]; kernel_rfl) | (rw [if_neg (by decide +kernel)]; exact ⟨rfl, rfl⟩))
    (fun os started H enc _ => lifted os started H enc)

theorem proved : Rows.GroundApartSaid := over
#print axioms proved
end Go.Proofs.Ytcknmholembjaaa.groundApart
