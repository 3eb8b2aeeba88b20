/-
  An act on both grounds: they are told alike.
-/
import Derived.Test.YtcknmholembjaaaRefGround2
namespace Go.Proofs.Ytcknmholembjaaa.Pk
open Go.RowKit
set_option linter.unusedVariables false
set_option linter.unusedSimpArgs false

/-! ### The chapter's example -/
def exG : Cf := ⟨2, 16, 3, 1⟩
theorem exG_may : exG.May := by constructor <;> decide
theorem gnew_ex (w : World) : Calls Try.prog 7 #[.agg #[.int .i64 2, .int .i64 16, .int .i64 3, .int .i64 1]] w (NewG 69 89 50 w exG) := gnew_yes exG w exG_may
theorem setword_ex (p : Pl) (w : World) (hG : G w p exG ⟨List.replicate 59 0, 0⟩) :
    Calls Try.prog 25 #[.pointer (some ⟨p.a, 0, none⟩), .int .i64 1, .int .i64 5, .int .u32 77] w (GP w p exG ⟨(List.replicate 59 0).set 48 77, 1⟩ (.bool true)) := setword_any p exG _ 1 5 77 w hG (by decide) (by decide)
theorem gwords_ex (p : Pl) (w : World) (hG : G w p exG ⟨(List.replicate 59 0).set 48 77, 1⟩) :
    Calls Try.prog 16 #[.pointer (some ⟨p.a, 0, none⟩)] w fun e w' => ∃ u, e = .returned (.slice (some ⟨u, 0, none⟩) 59 59) ∧ w'.cell? ⟨u, 48, none⟩ = some (.int .u32 77) ∧ w.heap.size ≤ u ∧ Below w.heap.size w w' := by
  refine (gwords_any p exG _ w hG).mono ?_
  rintro e w' ⟨u, he, hb, h2, h3⟩
  exact ⟨u, he, hb.cell 48 rfl, h2, h3⟩
theorem gmeter_ex (p : Pl) (w : World) (hG : G w p exG ⟨(List.replicate 59 0).set 48 77, 1⟩) :
    Calls Try.prog 14 #[.pointer (some ⟨p.a, 0, none⟩)] w fun e w' => e = .returned (.int .u64 1) ∧ w = w' := gmeter_any p exG _ w hG
theorem seeword_ex (p : Pl) (w : World) (hG : G w p exG ⟨(List.replicate 59 0).set 48 77, 1⟩) :
    Calls Try.prog 29 #[.pointer (some ⟨p.a, 0, none⟩), .int .i64 1, .int .i64 5] w fun e w' => e = .returned (.int .u32 77) ∧ Drw w w' := seeword_any p exG _ 1 5 w hG

theorem begun5_any (w : World) : Calls Try.prog 9 #[] w fun e w' => e = .returned (.bool true) ∧ Below w.heap.size w w' := by
  go_enter Try.func9, Try.ntmps9
  go_wp2_with fail
  refine (gnew_ex _).mono ?_
  rintro e w1 ⟨p, rfl, hG, hp, hb⟩
  have HG := Lib.hid hG
  have HP := Lib.hid hp
  have HB := Lib.hid hb
  clear hG hp hb
  go_wp2_with fail
  refine (setword_ex p _ HG.out).mono ?_
  rintro e w2 ⟨rfl, hG, hT⟩
  have HG2 := Lib.hid hG
  have HB2 := Lib.hid (HB.out.trans (hT.below (B := w.heap.size) (fun k hk => HP.out k (.inr hk)) HB.out.size))
  clear hG hT
  go_wp2_with fail
  refine (gwords_ex p _ HG2.out).mono ?_
  rintro e w3 ⟨u, rfl, hc, hu, hb⟩
  have HG3 := Lib.hid (HG2.out.later hb)
  have HB3 := Lib.hid (below_step HB2.out (hb))
  clear hu hb
  go_wp2_with fail
  refine (gmeter_ex p _ HG3.out).mono ?_
  rintro e w4 ⟨rfl, rfl⟩
  go_wp2_with fail
  refine (seeword_ex p _ HG3.out).mono ?_
  rintro e w4 ⟨rfl, hd⟩
  have HB4 := Lib.hid (below_step HB3.out hd.new)
  clear hd
  go_wp2_with fail
  go_ret
  exact ⟨rfl, HB4.out⟩

/-! ### One act -/
/-- What is there while an act is done: both grounds, the act's box. -/
structure Env (w0 w : World) (b : Nat) (cs : Array Value) (p q : Pl) (c : Cf) (s t : St) : Prop where
  gd : G w p c s
  rf : RG w q c t
  ap : ∀ k, ofG p k → ¬ ofG q k
  box : Blk w b cs 35
  bp : ¬ ofG p b
  bq : ¬ ofG q b
  tch : Touch (fun k => inG p k ∨ inG q k) w0 w
theorem Env.later {w0 w w' : World} {b : Nat} {cs : Array Value} {p q : Pl} {c : Cf} {s t : St} (h : Env w0 w b cs p q c s t) (k : Below w.heap.size w w') : Env w0 w' b cs p q c s t :=
  ⟨h.gd.later k, h.rf.later k, h.ap, h.box.later k, h.bp, h.bq, h.tch.trans (Touch.of_below k)⟩
theorem Env.drew {w0 w : World} {b : Nat} {cs : Array Value} {p q : Pl} {c : Cf} {s t : St} (h : Env w0 w b cs p q c s t) : Env w0 w.drew b cs p q c s t := h.later (Drw.refl w |>.step 1).new
theorem Env.stepG {w0 w w' : World} {b : Nat} {cs : Array Value} {p q : Pl} {c : Cf} {s t s' : St} (h : Env w0 w b cs p q c s t) (hG : G w' p c s') (hT : Touch (inG p) w w') : Env w0 w' b cs p q c s' t :=
  ⟨hG, h.rf.touch hT fun k hk hx => h.ap k (.inr hx) hk, h.ap, h.box.touch hT fun hx => h.bp (.inr hx), h.bp, h.bq, h.tch.trans (hT.mono fun _ _ hk => .inl hk)⟩
theorem Env.stepR {w0 w w' : World} {b : Nat} {cs : Array Value} {p q : Pl} {c : Cf} {s t t' : St} (h : Env w0 w b cs p q c s t) (hG : RG w' q c t') (hT : Touch (inG q) w w') : Env w0 w' b cs p q c s t' :=
  ⟨h.gd.touch hT fun k hk hx => h.ap k hk (.inr hx), hG, h.ap, h.box.touch hT fun hx => h.bq (.inr hx), h.bp, h.bq, h.tch.trans (hT.mono fun _ _ hk => .inr hk)⟩
abbrev boxC (k i v x : Int) : Array Value := #[.int .u8 k, .int .i64 i, .int .i64 v, .int .i64 x]
theorem Env.S {w0 w : World} {b : Nat} {k i v x : Int} {p q : Pl} {c : Cf} {s t : St} (h : Env w0 w b (boxC k i v x) p q c s t) :
    (w.cell? ⟨b, 0, none⟩ = some (.int .u8 k) ∧ w.cell? ⟨b, 1, none⟩ = some (.int .i64 i) ∧ w.cell? ⟨b, 2, none⟩ = some (.int .i64 v) ∧ w.cell? ⟨b, 3, none⟩ = some (.int .i64 x) ∧ w.cell? ⟨q.a, 0, none⟩ = some (.int .i64 (c.N : Int)) ∧ w.cell? ⟨q.a, 1, none⟩ = some (.int .i64 (c.W : Int)) ∧ w.cell? ⟨q.a, 2, none⟩ = some (.int .i64 (c.R : Int)) ∧ w.cell? ⟨q.a, 3, none⟩ = some (.int .i64 (c.K : Int)) ∧ w.cell? ⟨q.a, 4, none⟩ = some (.pointer (some ⟨q.s, 0, none⟩))) :=
  ⟨h.box.cell 0 rfl, h.box.cell 1 rfl, h.box.cell 2 rfl, h.box.cell 3 rfl, h.rf.cN, h.rf.cW, h.rf.cR, h.rf.cK, h.rf.ptr⟩

/-- Both grounds hold the same. -/
structure Duo (w : World) (p q : Pl) (c : Cf) (s : St) : Prop where
  gd : G w p c s
  rf : RG w q c s
  ap : ∀ k, ofG p k → ¬ ofG q k
theorem Duo.env {w : World} {p q : Pl} {c : Cf} {s : St} (h : Duo w p q c s) (cs : Array Value) : Env w (w.alloc (.cells cs 35)) w.heap.size cs p q c s s := by
  refine ⟨h.gd.alloc _, h.rf.alloc _, h.ap, Blk.new w cs _, ?_, ?_, (Touch.refl _ w).alloc _⟩
  · have h1 := h.gd.head.lt; have h2 := h.gd.st.head.lt; have h3 := h.gd.st.body.lt
    intro e
    have e' : w.heap.size = p.a ∨ w.heap.size = p.s ∨ w.heap.size = p.g := e
    omega
  · have h1 := h.rf.head.lt; have h2 := h.rf.st.head.lt; have h3 := h.rf.st.body.lt
    intro e
    have e' : w.heap.size = q.a ∨ w.heap.size = q.s ∨ w.heap.size = q.g := e
    omega
theorem Duo.drew {w : World} {p q : Pl} {c : Cf} {s : St} (h : Duo w p q c s) : Duo w.drew p q c s := ⟨h.gd.drew, h.rf.drew, h.ap⟩
theorem Duo.later {w w' : World} {p q : Pl} {c : Cf} {s : St} (h : Duo w p q c s) (k : Below w.heap.size w w') : Duo w' p q c s := ⟨h.gd.later k, h.rf.later k, h.ap⟩
theorem Duo.alloc {w : World} {p q : Pl} {c : Cf} {s : St} (h : Duo w p q c s) (o : Obj) : Duo (w.alloc o) p q c s := ⟨h.gd.alloc o, h.rf.alloc o, h.ap⟩
theorem Env.duo {w0 w : World} {b : Nat} {cs : Array Value} {p q : Pl} {c : Cf} {s : St} (h : Env w0 w b cs p q c s s) : Duo w p q c s := ⟨h.gd, h.rf, h.ap⟩
/-- Behind an act. -/
def ActP (w : World) (p q : Pl) (c : Cf) (s : St) (en : Ending) (w' : World) : Prop :=
  en = .returned (.bool true) ∧ Duo w' p q c s ∧ Touch (fun k => inG p k ∨ inG q k) w w'

set_option maxRecDepth 100000 in
set_option maxHeartbeats 1000000 in
theorem doReg (p q : Pl) (c : Cf) (s : St) (i v x : Int) (w : World) (hD : Duo w p q c s) :
    Calls Try.prog 13 #[.pointer (some ⟨p.a, 0, none⟩), .pointer (some ⟨q.a, 0, none⟩), .agg #[.int .u8 0, .int .i64 i, .int .i64 v, .int .i64 x]] w (ActP w p q c (s.ask (regA i))) := by
  have hwr : IntKind.i64.wrap (s.at? (regA i)) = s.at? (regA i) := by have := St.at?_wf hD.gd.wf (regA i); exact IntWalk.i64_in _ (by omega)
  have HM := Lib.hid hD.gd.may
  have HE := Lib.hid (hD.env (boxC 0 i v x))
  have cb0 := HE.out.S.1
  clear hD
  go_enter Try.func13, Try.ntmps13
  go_wp2_with fail
  go_region_held3 (fun w' => w'.cell? ⟨w.heap.size, 0, none⟩ = some (.int .u8 0) ∧ w'.cell? ⟨w.heap.size, 1, none⟩ = some (.int .i64 i) ∧ w'.cell? ⟨w.heap.size, 2, none⟩ = some (.int .i64 v) ∧ w'.cell? ⟨w.heap.size, 3, none⟩ = some (.int .i64 x) ∧ w'.cell? ⟨q.a, 0, none⟩ = some (.int .i64 (c.N : Int)) ∧ w'.cell? ⟨q.a, 1, none⟩ = some (.int .i64 (c.W : Int)) ∧ w'.cell? ⟨q.a, 2, none⟩ = some (.int .i64 (c.R : Int)) ∧ w'.cell? ⟨q.a, 3, none⟩ = some (.int .i64 (c.K : Int)) ∧ w'.cell? ⟨q.a, 4, none⟩ = some (.pointer (some ⟨q.s, 0, none⟩))) (first | exact HE5.out.S | exact HE4.out.S | exact HE3.out.S | exact HE2.out.S | exact HE1.out.S | exact HE.out.S | exact HE.out.drew.S | exact HE2.out.drew.S)
    (first | (go_at_call 33; refine (refRegAt_any _ _).mono ?_; rintro e wn ⟨rfl, rfl⟩; skip) | (go_at_call 34; refine (refRootAt_any c _ _ HM.out).mono ?_; rintro e wn ⟨rfl, hb⟩; have HE1 := Lib.hid (HE.out.drew.later hb); clear hb) | (go_at_call 35; refine (refWordAt_any c _ _ _ HM.out).mono ?_; rintro e wn ⟨rfl, hb⟩; have HE2 := Lib.hid (HE1.out.later hb); clear hb))
  have cc0 := HE2.out.S.1
  go_wp2_with fail
  go_region_held3 (fun w' => w'.cell? ⟨w.heap.size, 0, none⟩ = some (.int .u8 0) ∧ w'.cell? ⟨w.heap.size, 1, none⟩ = some (.int .i64 i) ∧ w'.cell? ⟨w.heap.size, 2, none⟩ = some (.int .i64 v) ∧ w'.cell? ⟨w.heap.size, 3, none⟩ = some (.int .i64 x) ∧ w'.cell? ⟨q.a, 0, none⟩ = some (.int .i64 (c.N : Int)) ∧ w'.cell? ⟨q.a, 1, none⟩ = some (.int .i64 (c.W : Int)) ∧ w'.cell? ⟨q.a, 2, none⟩ = some (.int .i64 (c.R : Int)) ∧ w'.cell? ⟨q.a, 3, none⟩ = some (.int .i64 (c.K : Int)) ∧ w'.cell? ⟨q.a, 4, none⟩ = some (.pointer (some ⟨q.s, 0, none⟩))) (first | exact HE5.out.S | exact HE4.out.S | exact HE3.out.S | exact HE2.out.S | exact HE1.out.S | exact HE.out.S | exact HE.out.drew.S | exact HE2.out.drew.S)
    (first | (go_at_call 18; refine (reg_any p c s i _ HE2.out.drew.gd).mono ?_; rintro e wn ⟨rfl, hG, hT⟩; have HE3 := Lib.hid (HE2.out.drew.stepG hG hT); clear hG hT) | (go_at_call 36; refine (rget_any q c s (regA i) _ HE3.out.rf (fun k hk => regA_lt hk)).mono ?_; rintro e wn ⟨rfl, hG, hT⟩; have HE4 := Lib.hid (HE3.out.stepR hG hT); clear hG hT))
  go_wp2_with fail
  go_ret
  exact ⟨rfl, HE4.out.duo, HE4.out.tch⟩

set_option maxRecDepth 100000 in
set_option maxHeartbeats 1000000 in
theorem doSetReg (p q : Pl) (c : Cf) (s : St) (i v x : Int) (w : World) (hD : Duo w p q c s) :
    Calls Try.prog 13 #[.pointer (some ⟨p.a, 0, none⟩), .pointer (some ⟨q.a, 0, none⟩), .agg #[.int .u8 1, .int .i64 i, .int .i64 v, .int .i64 x]] w (ActP w p q c (s.putN (regA i) x)) := by
  have HM := Lib.hid hD.gd.may
  have HE := Lib.hid (hD.env (boxC 1 i v x))
  have cb0 := HE.out.S.1
  clear hD
  go_enter Try.func13, Try.ntmps13
  go_wp2_with fail
  go_region_held3 (fun w' => w'.cell? ⟨w.heap.size, 0, none⟩ = some (.int .u8 1) ∧ w'.cell? ⟨w.heap.size, 1, none⟩ = some (.int .i64 i) ∧ w'.cell? ⟨w.heap.size, 2, none⟩ = some (.int .i64 v) ∧ w'.cell? ⟨w.heap.size, 3, none⟩ = some (.int .i64 x) ∧ w'.cell? ⟨q.a, 0, none⟩ = some (.int .i64 (c.N : Int)) ∧ w'.cell? ⟨q.a, 1, none⟩ = some (.int .i64 (c.W : Int)) ∧ w'.cell? ⟨q.a, 2, none⟩ = some (.int .i64 (c.R : Int)) ∧ w'.cell? ⟨q.a, 3, none⟩ = some (.int .i64 (c.K : Int)) ∧ w'.cell? ⟨q.a, 4, none⟩ = some (.pointer (some ⟨q.s, 0, none⟩))) (first | exact HE5.out.S | exact HE4.out.S | exact HE3.out.S | exact HE2.out.S | exact HE1.out.S | exact HE.out.S | exact HE.out.drew.S | exact HE2.out.drew.S)
    (first | (go_at_call 33; refine (refRegAt_any _ _).mono ?_; rintro e wn ⟨rfl, rfl⟩; skip) | (go_at_call 34; refine (refRootAt_any c _ _ HM.out).mono ?_; rintro e wn ⟨rfl, hb⟩; have HE1 := Lib.hid (HE.out.drew.later hb); clear hb) | (go_at_call 35; refine (refWordAt_any c _ _ _ HM.out).mono ?_; rintro e wn ⟨rfl, hb⟩; have HE2 := Lib.hid (HE1.out.later hb); clear hb))
  have cc0 := HE2.out.S.1
  go_wp2_with fail
  go_region_held3 (fun w' => w'.cell? ⟨w.heap.size, 0, none⟩ = some (.int .u8 1) ∧ w'.cell? ⟨w.heap.size, 1, none⟩ = some (.int .i64 i) ∧ w'.cell? ⟨w.heap.size, 2, none⟩ = some (.int .i64 v) ∧ w'.cell? ⟨w.heap.size, 3, none⟩ = some (.int .i64 x) ∧ w'.cell? ⟨q.a, 0, none⟩ = some (.int .i64 (c.N : Int)) ∧ w'.cell? ⟨q.a, 1, none⟩ = some (.int .i64 (c.W : Int)) ∧ w'.cell? ⟨q.a, 2, none⟩ = some (.int .i64 (c.R : Int)) ∧ w'.cell? ⟨q.a, 3, none⟩ = some (.int .i64 (c.K : Int)) ∧ w'.cell? ⟨q.a, 4, none⟩ = some (.pointer (some ⟨q.s, 0, none⟩))) (first | exact HE5.out.S | exact HE4.out.S | exact HE3.out.S | exact HE2.out.S | exact HE1.out.S | exact HE.out.S | exact HE.out.drew.S | exact HE2.out.drew.S)
    (first | (go_at_call 21; refine (setreg_any p c s i x _ HE2.out.drew.gd).mono ?_; rintro e wn ⟨rfl, hG, hT⟩; have HE3 := Lib.hid (HE2.out.drew.stepG hG hT); clear hG hT) | (go_at_call 37; refine (rset_any q c s (regA i) x _ HE3.out.rf (fun k hk => regA_lt hk)).mono ?_; rintro e wn ⟨rfl, hG, hT⟩; have HE4 := Lib.hid (HE3.out.stepR hG hT); clear hG hT))
  go_wp2_with fail
  go_ret
  exact ⟨rfl, HE4.out.duo, HE4.out.tch⟩

set_option maxRecDepth 100000 in
set_option maxHeartbeats 1000000 in
theorem doRoot (p q : Pl) (c : Cf) (s : St) (i v x : Int) (w : World) (hD : Duo w p q c s) :
    Calls Try.prog 13 #[.pointer (some ⟨p.a, 0, none⟩), .pointer (some ⟨q.a, 0, none⟩), .agg #[.int .u8 2, .int .i64 i, .int .i64 v, .int .i64 x]] w (ActP w p q c (s.ask (rootA c i))) := by
  have hwr : IntKind.i64.wrap (s.at? (rootA c i)) = s.at? (rootA c i) := by have := St.at?_wf hD.gd.wf (rootA c i); exact IntWalk.i64_in _ (by omega)
  have HM := Lib.hid hD.gd.may
  have HE := Lib.hid (hD.env (boxC 2 i v x))
  have cb0 := HE.out.S.1
  clear hD
  go_enter Try.func13, Try.ntmps13
  go_wp2_with fail
  go_region_held3 (fun w' => w'.cell? ⟨w.heap.size, 0, none⟩ = some (.int .u8 2) ∧ w'.cell? ⟨w.heap.size, 1, none⟩ = some (.int .i64 i) ∧ w'.cell? ⟨w.heap.size, 2, none⟩ = some (.int .i64 v) ∧ w'.cell? ⟨w.heap.size, 3, none⟩ = some (.int .i64 x) ∧ w'.cell? ⟨q.a, 0, none⟩ = some (.int .i64 (c.N : Int)) ∧ w'.cell? ⟨q.a, 1, none⟩ = some (.int .i64 (c.W : Int)) ∧ w'.cell? ⟨q.a, 2, none⟩ = some (.int .i64 (c.R : Int)) ∧ w'.cell? ⟨q.a, 3, none⟩ = some (.int .i64 (c.K : Int)) ∧ w'.cell? ⟨q.a, 4, none⟩ = some (.pointer (some ⟨q.s, 0, none⟩))) (first | exact HE5.out.S | exact HE4.out.S | exact HE3.out.S | exact HE2.out.S | exact HE1.out.S | exact HE.out.S | exact HE.out.drew.S | exact HE2.out.drew.S)
    (first | (go_at_call 33; refine (refRegAt_any _ _).mono ?_; rintro e wn ⟨rfl, rfl⟩; skip) | (go_at_call 34; refine (refRootAt_any c _ _ HM.out).mono ?_; rintro e wn ⟨rfl, hb⟩; have HE1 := Lib.hid (HE.out.drew.later hb); clear hb) | (go_at_call 35; refine (refWordAt_any c _ _ _ HM.out).mono ?_; rintro e wn ⟨rfl, hb⟩; have HE2 := Lib.hid (HE1.out.later hb); clear hb))
  have cc0 := HE2.out.S.1
  go_wp2_with fail
  go_region_held3 (fun w' => w'.cell? ⟨w.heap.size, 0, none⟩ = some (.int .u8 2) ∧ w'.cell? ⟨w.heap.size, 1, none⟩ = some (.int .i64 i) ∧ w'.cell? ⟨w.heap.size, 2, none⟩ = some (.int .i64 v) ∧ w'.cell? ⟨w.heap.size, 3, none⟩ = some (.int .i64 x) ∧ w'.cell? ⟨q.a, 0, none⟩ = some (.int .i64 (c.N : Int)) ∧ w'.cell? ⟨q.a, 1, none⟩ = some (.int .i64 (c.W : Int)) ∧ w'.cell? ⟨q.a, 2, none⟩ = some (.int .i64 (c.R : Int)) ∧ w'.cell? ⟨q.a, 3, none⟩ = some (.int .i64 (c.K : Int)) ∧ w'.cell? ⟨q.a, 4, none⟩ = some (.pointer (some ⟨q.s, 0, none⟩))) (first | exact HE5.out.S | exact HE4.out.S | exact HE3.out.S | exact HE2.out.S | exact HE1.out.S | exact HE.out.S | exact HE.out.drew.S | exact HE2.out.drew.S)
    (first | (go_at_call 22; refine (root_any p c s i _ HE2.out.drew.gd).mono ?_; rintro e wn ⟨rfl, hG, hT⟩; have HE3 := Lib.hid (HE2.out.drew.stepG hG hT); clear hG hT) | (go_at_call 36; refine (rget_any q c s (rootA c i) _ HE3.out.rf (fun k hk => rootA_lt hk)).mono ?_; rintro e wn ⟨rfl, hG, hT⟩; have HE4 := Lib.hid (HE3.out.stepR hG hT); clear hG hT))
  go_wp2_with fail
  go_ret
  exact ⟨rfl, HE4.out.duo, HE4.out.tch⟩

set_option maxRecDepth 100000 in
set_option maxHeartbeats 1000000 in
theorem doSetRoot (p q : Pl) (c : Cf) (s : St) (i v x : Int) (w : World) (hD : Duo w p q c s) :
    Calls Try.prog 13 #[.pointer (some ⟨p.a, 0, none⟩), .pointer (some ⟨q.a, 0, none⟩), .agg #[.int .u8 3, .int .i64 i, .int .i64 v, .int .i64 x]] w (ActP w p q c (s.putN (rootA c i) x)) := by
  have HM := Lib.hid hD.gd.may
  have HE := Lib.hid (hD.env (boxC 3 i v x))
  have cb0 := HE.out.S.1
  clear hD
  go_enter Try.func13, Try.ntmps13
  go_wp2_with fail
  go_region_held3 (fun w' => w'.cell? ⟨w.heap.size, 0, none⟩ = some (.int .u8 3) ∧ w'.cell? ⟨w.heap.size, 1, none⟩ = some (.int .i64 i) ∧ w'.cell? ⟨w.heap.size, 2, none⟩ = some (.int .i64 v) ∧ w'.cell? ⟨w.heap.size, 3, none⟩ = some (.int .i64 x) ∧ w'.cell? ⟨q.a, 0, none⟩ = some (.int .i64 (c.N : Int)) ∧ w'.cell? ⟨q.a, 1, none⟩ = some (.int .i64 (c.W : Int)) ∧ w'.cell? ⟨q.a, 2, none⟩ = some (.int .i64 (c.R : Int)) ∧ w'.cell? ⟨q.a, 3, none⟩ = some (.int .i64 (c.K : Int)) ∧ w'.cell? ⟨q.a, 4, none⟩ = some (.pointer (some ⟨q.s, 0, none⟩))) (first | exact HE5.out.S | exact HE4.out.S | exact HE3.out.S | exact HE2.out.S | exact HE1.out.S | exact HE.out.S | exact HE.out.drew.S | exact HE2.out.drew.S)
    (first | (go_at_call 33; refine (refRegAt_any _ _).mono ?_; rintro e wn ⟨rfl, rfl⟩; skip) | (go_at_call 34; refine (refRootAt_any c _ _ HM.out).mono ?_; rintro e wn ⟨rfl, hb⟩; have HE1 := Lib.hid (HE.out.drew.later hb); clear hb) | (go_at_call 35; refine (refWordAt_any c _ _ _ HM.out).mono ?_; rintro e wn ⟨rfl, hb⟩; have HE2 := Lib.hid (HE1.out.later hb); clear hb))
  have cc0 := HE2.out.S.1
  go_wp2_with fail
  go_region_held3 (fun w' => w'.cell? ⟨w.heap.size, 0, none⟩ = some (.int .u8 3) ∧ w'.cell? ⟨w.heap.size, 1, none⟩ = some (.int .i64 i) ∧ w'.cell? ⟨w.heap.size, 2, none⟩ = some (.int .i64 v) ∧ w'.cell? ⟨w.heap.size, 3, none⟩ = some (.int .i64 x) ∧ w'.cell? ⟨q.a, 0, none⟩ = some (.int .i64 (c.N : Int)) ∧ w'.cell? ⟨q.a, 1, none⟩ = some (.int .i64 (c.W : Int)) ∧ w'.cell? ⟨q.a, 2, none⟩ = some (.int .i64 (c.R : Int)) ∧ w'.cell? ⟨q.a, 3, none⟩ = some (.int .i64 (c.K : Int)) ∧ w'.cell? ⟨q.a, 4, none⟩ = some (.pointer (some ⟨q.s, 0, none⟩))) (first | exact HE5.out.S | exact HE4.out.S | exact HE3.out.S | exact HE2.out.S | exact HE1.out.S | exact HE.out.S | exact HE.out.drew.S | exact HE2.out.drew.S)
    (first | (go_at_call 23; refine (setroot_any p c s i x _ HE2.out.drew.gd).mono ?_; rintro e wn ⟨rfl, hG, hT⟩; have HE3 := Lib.hid (HE2.out.drew.stepG hG hT); clear hG hT) | (go_at_call 37; refine (rset_any q c s (rootA c i) x _ HE3.out.rf (fun k hk => rootA_lt hk)).mono ?_; rintro e wn ⟨rfl, hG, hT⟩; have HE4 := Lib.hid (HE3.out.stepR hG hT); clear hG hT))
  go_wp2_with fail
  go_ret
  exact ⟨rfl, HE4.out.duo, HE4.out.tch⟩

set_option maxRecDepth 100000 in
set_option maxHeartbeats 1000000 in
theorem doWord (p q : Pl) (c : Cf) (s : St) (i v x : Int) (w : World) (hD : Duo w p q c s) :
    Calls Try.prog 13 #[.pointer (some ⟨p.a, 0, none⟩), .pointer (some ⟨q.a, 0, none⟩), .agg #[.int .u8 4, .int .i64 i, .int .i64 v, .int .i64 x]] w (ActP w p q c (s.ask (wordA c i v))) := by
  have HM := Lib.hid hD.gd.may
  have HE := Lib.hid (hD.env (boxC 4 i v x))
  have cb0 := HE.out.S.1
  clear hD
  go_enter Try.func13, Try.ntmps13
  go_wp2_with fail
  go_region_held3 (fun w' => w'.cell? ⟨w.heap.size, 0, none⟩ = some (.int .u8 4) ∧ w'.cell? ⟨w.heap.size, 1, none⟩ = some (.int .i64 i) ∧ w'.cell? ⟨w.heap.size, 2, none⟩ = some (.int .i64 v) ∧ w'.cell? ⟨w.heap.size, 3, none⟩ = some (.int .i64 x) ∧ w'.cell? ⟨q.a, 0, none⟩ = some (.int .i64 (c.N : Int)) ∧ w'.cell? ⟨q.a, 1, none⟩ = some (.int .i64 (c.W : Int)) ∧ w'.cell? ⟨q.a, 2, none⟩ = some (.int .i64 (c.R : Int)) ∧ w'.cell? ⟨q.a, 3, none⟩ = some (.int .i64 (c.K : Int)) ∧ w'.cell? ⟨q.a, 4, none⟩ = some (.pointer (some ⟨q.s, 0, none⟩))) (first | exact HE5.out.S | exact HE4.out.S | exact HE3.out.S | exact HE2.out.S | exact HE1.out.S | exact HE.out.S | exact HE.out.drew.S | exact HE2.out.drew.S)
    (first | (go_at_call 33; refine (refRegAt_any _ _).mono ?_; rintro e wn ⟨rfl, rfl⟩; skip) | (go_at_call 34; refine (refRootAt_any c _ _ HM.out).mono ?_; rintro e wn ⟨rfl, hb⟩; have HE1 := Lib.hid (HE.out.drew.later hb); clear hb) | (go_at_call 35; refine (refWordAt_any c _ _ _ HM.out).mono ?_; rintro e wn ⟨rfl, hb⟩; have HE2 := Lib.hid (HE1.out.later hb); clear hb))
  have cc0 := HE2.out.S.1
  go_wp2_with fail
  go_region_held3 (fun w' => w'.cell? ⟨w.heap.size, 0, none⟩ = some (.int .u8 4) ∧ w'.cell? ⟨w.heap.size, 1, none⟩ = some (.int .i64 i) ∧ w'.cell? ⟨w.heap.size, 2, none⟩ = some (.int .i64 v) ∧ w'.cell? ⟨w.heap.size, 3, none⟩ = some (.int .i64 x) ∧ w'.cell? ⟨q.a, 0, none⟩ = some (.int .i64 (c.N : Int)) ∧ w'.cell? ⟨q.a, 1, none⟩ = some (.int .i64 (c.W : Int)) ∧ w'.cell? ⟨q.a, 2, none⟩ = some (.int .i64 (c.R : Int)) ∧ w'.cell? ⟨q.a, 3, none⟩ = some (.int .i64 (c.K : Int)) ∧ w'.cell? ⟨q.a, 4, none⟩ = some (.pointer (some ⟨q.s, 0, none⟩))) (first | exact HE5.out.S | exact HE4.out.S | exact HE3.out.S | exact HE2.out.S | exact HE1.out.S | exact HE.out.S | exact HE.out.drew.S | exact HE2.out.drew.S)
    (first | (go_at_call 24; refine (word_any p c s i v _ HE2.out.drew.gd).mono ?_; rintro e wn ⟨rfl, hG, hT⟩; have HE3 := Lib.hid (HE2.out.drew.stepG hG hT); clear hG hT) | (go_at_call 36; refine (rget_any q c s (wordA c i v) _ HE3.out.rf (fun k hk => wordA_lt hk)).mono ?_; rintro e wn ⟨rfl, hG, hT⟩; have HE4 := Lib.hid (HE3.out.stepR hG hT); clear hG hT))
  go_wp2_with fail
  go_ret
  exact ⟨rfl, HE4.out.duo, HE4.out.tch⟩

set_option maxRecDepth 100000 in
set_option maxHeartbeats 1000000 in
theorem doWipe (p q : Pl) (c : Cf) (s : St) (i v x : Int) (w : World) (hD : Duo w p q c s) :
    Calls Try.prog 13 #[.pointer (some ⟨p.a, 0, none⟩), .pointer (some ⟨q.a, 0, none⟩), .agg #[.int .u8 6, .int .i64 i, .int .i64 v, .int .i64 x]] w (ActP w p q c (s.wiped c i)) := by
  have HM := Lib.hid hD.gd.may
  have HE := Lib.hid (hD.env (boxC 6 i v x))
  have cb0 := HE.out.S.1
  clear hD
  go_enter Try.func13, Try.ntmps13
  go_wp2_with fail
  go_region_held3 (fun w' => w'.cell? ⟨w.heap.size, 0, none⟩ = some (.int .u8 6) ∧ w'.cell? ⟨w.heap.size, 1, none⟩ = some (.int .i64 i) ∧ w'.cell? ⟨w.heap.size, 2, none⟩ = some (.int .i64 v) ∧ w'.cell? ⟨w.heap.size, 3, none⟩ = some (.int .i64 x) ∧ w'.cell? ⟨q.a, 0, none⟩ = some (.int .i64 (c.N : Int)) ∧ w'.cell? ⟨q.a, 1, none⟩ = some (.int .i64 (c.W : Int)) ∧ w'.cell? ⟨q.a, 2, none⟩ = some (.int .i64 (c.R : Int)) ∧ w'.cell? ⟨q.a, 3, none⟩ = some (.int .i64 (c.K : Int)) ∧ w'.cell? ⟨q.a, 4, none⟩ = some (.pointer (some ⟨q.s, 0, none⟩))) (first | exact HE5.out.S | exact HE4.out.S | exact HE3.out.S | exact HE2.out.S | exact HE1.out.S | exact HE.out.S | exact HE.out.drew.S | exact HE2.out.drew.S)
    (first | (go_at_call 33; refine (refRegAt_any _ _).mono ?_; rintro e wn ⟨rfl, rfl⟩; skip) | (go_at_call 34; refine (refRootAt_any c _ _ HM.out).mono ?_; rintro e wn ⟨rfl, hb⟩; have HE1 := Lib.hid (HE.out.drew.later hb); clear hb) | (go_at_call 35; refine (refWordAt_any c _ _ _ HM.out).mono ?_; rintro e wn ⟨rfl, hb⟩; have HE2 := Lib.hid (HE1.out.later hb); clear hb))
  have cc0 := HE2.out.S.1
  go_wp2_with fail
  go_region_held3 (fun w' => w'.cell? ⟨w.heap.size, 0, none⟩ = some (.int .u8 6) ∧ w'.cell? ⟨w.heap.size, 1, none⟩ = some (.int .i64 i) ∧ w'.cell? ⟨w.heap.size, 2, none⟩ = some (.int .i64 v) ∧ w'.cell? ⟨w.heap.size, 3, none⟩ = some (.int .i64 x) ∧ w'.cell? ⟨q.a, 0, none⟩ = some (.int .i64 (c.N : Int)) ∧ w'.cell? ⟨q.a, 1, none⟩ = some (.int .i64 (c.W : Int)) ∧ w'.cell? ⟨q.a, 2, none⟩ = some (.int .i64 (c.R : Int)) ∧ w'.cell? ⟨q.a, 3, none⟩ = some (.int .i64 (c.K : Int)) ∧ w'.cell? ⟨q.a, 4, none⟩ = some (.pointer (some ⟨q.s, 0, none⟩))) (first | exact HE5.out.S | exact HE4.out.S | exact HE3.out.S | exact HE2.out.S | exact HE1.out.S | exact HE.out.S | exact HE.out.drew.S | exact HE2.out.drew.S)
    (first | (go_at_call 26; refine (wipe_any p c s i _ HE2.out.drew.gd).mono ?_; rintro e wn ⟨rfl, hG, hT⟩; have HE3 := Lib.hid (HE2.out.drew.stepG hG hT); clear hG hT) | (go_at_call 38; refine (rwipe_any q c s i _ HE3.out.rf).mono ?_; rintro e wn ⟨rfl, hG, hT⟩; have HE4 := Lib.hid (HE3.out.stepR hG hT); clear hG hT))
  go_wp2_with fail
  go_ret
  exact ⟨rfl, HE4.out.duo, HE4.out.tch⟩

end Go.Proofs.Ytcknmholembjaaa.Pk
