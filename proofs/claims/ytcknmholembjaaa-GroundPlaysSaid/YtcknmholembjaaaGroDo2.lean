/-
  An act on both grounds: a word set, and the calls that do not count; any act.
-/
import Derived.Test.YtcknmholembjaaaGroDo
namespace Go.Proofs.Ytcknmholembjaaa.Pk
open Go.RowKit
set_option linter.unusedVariables false
set_option linter.unusedSimpArgs false

theorem asB {P : Program} {f : FuncId} {args : Array Value} {w : World} {a b : Bool} {Q : World → Prop} (h : Calls P f args w fun e w' => e = .returned (.bool a) ∧ Q w') (hab : a = b) :
    Calls P f args w fun e w' => e = .returned (.bool b) ∧ Q w' := hab ▸ h
theorem Duo.fresh {w : World} {p q : Pl} {c : Cf} {s : St} (h : Duo w p q c s) : ¬ (inG p w.heap.size ∨ inG q w.heap.size) := by
  have h1 := h.gd.st.head.lt; have h2 := h.gd.st.body.lt; have h3 := h.rf.st.head.lt; have h4 := h.rf.st.body.lt
  intro e
  have e' : (w.heap.size = p.s ∨ w.heap.size = p.g) ∨ (w.heap.size = q.s ∨ w.heap.size = q.g) := e
  omega
theorem gwordsN (p : Pl) (c : Cf) (s : St) (w : World) (hG : G w p c s) {n : Nat} (hn : s.zs.length = n) :
    Calls Try.prog 16 #[.pointer (some ⟨p.a, 0, none⟩)] w fun en w' => ∃ g, en = .returned (.slice (some ⟨g, 0, none⟩) n n) ∧ Blk w' g (words s.zs) 50 ∧ w.heap.size ≤ g ∧ Below w.heap.size w w' := by
  subst hn
  exact gwords_any p c s w hG
theorem eqIu {P : Program} {f : FuncId} {args : Array Value} {w : World} {a b : Int} {Q : World → Prop} (h : Calls P f args w fun e w' => e = .returned (.int .u64 a) ∧ Q w') (hab : a = b) :
    Calls P f args w fun e w' => e = .returned (.int .u64 b) ∧ Q w' := hab ▸ h
def u32of (x : Int) : Int := x % 4294967296
theorem u32of_bd (x : Int) : 0 ≤ u32of x ∧ u32of x ≤ 4294967295 := by unfold u32of; omega
theorem putN_fits {s : St} {o : Option Nat} {v : Int} (h0 : 0 ≤ v) (h1 : v ≤ 4294967295) : s.putN o v = s.put o v := by
  unfold St.putN; rw [fitsB_mk h0 h1]; rfl
theorem putB_fits {o : Option Nat} {v : Int} (h0 : 0 ≤ v) (h1 : v ≤ 4294967295) : putB o v = o.isSome := by
  unfold putB; rw [fitsB_mk h0 h1]; cases o <;> rfl
theorem rsetw_any (p : Pl) (c : Cf) (s : St) (o : Option Nat) (v : Int) (w : World) (hG : RG w p c s) (ho : ∀ k, o = some k → k < c.size) (h0 : 0 ≤ v) (h1 : v ≤ 4294967295) :
    Calls Try.prog 37 #[.pointer (some ⟨p.a, 0, none⟩), .int .i64 (atI o), .int .i64 v] w (RGP w p c (s.put o v) (.bool o.isSome)) := by
  have := rset_any p c s o v w hG ho
  rwa [putN_fits h0 h1, putB_fits h0 h1] at this

set_option maxRecDepth 100000 in
set_option maxHeartbeats 1000000 in
theorem doSetWord (p q : Pl) (c : Cf) (s : St) (i v x : Int) (w : World) (hD : Duo w p q c s) :
    Calls Try.prog 13 #[.pointer (some ⟨p.a, 0, none⟩), .pointer (some ⟨q.a, 0, none⟩), .agg #[.int .u8 5, .int .i64 i, .int .i64 v, .int .i64 x]] w (ActP w p q c (s.put (wordA c i v) (u32of x))) := by
  have hx := u32of_bd x
  have hw1 : IntKind.u32.wrap (IntKind.u64.wrap x) = u32of x := by rw [IntKind.wrap_u64, IntKind.wrap_u32]; unfold u32of; omega
  have hw2 : IntKind.i64.wrap (u32of x) = u32of x := IntWalk.i64_in _ (by omega)
  have HX := Lib.hid hx
  clear hx
  have HM := Lib.hid hD.gd.may
  have HE := Lib.hid (hD.env (boxC 5 i v x))
  have cb0 := HE.out.S.1
  clear hD
  go_enter Try.func13, Try.ntmps13
  go_wp2_with fail
  go_region_held3 (fun w' => w'.cell? ⟨w.heap.size, 0, none⟩ = some (.int .u8 5) ∧ w'.cell? ⟨w.heap.size, 1, none⟩ = some (.int .i64 i) ∧ w'.cell? ⟨w.heap.size, 2, none⟩ = some (.int .i64 v) ∧ w'.cell? ⟨w.heap.size, 3, none⟩ = some (.int .i64 x) ∧ w'.cell? ⟨q.a, 0, none⟩ = some (.int .i64 (c.N : Int)) ∧ w'.cell? ⟨q.a, 1, none⟩ = some (.int .i64 (c.W : Int)) ∧ w'.cell? ⟨q.a, 2, none⟩ = some (.int .i64 (c.R : Int)) ∧ w'.cell? ⟨q.a, 3, none⟩ = some (.int .i64 (c.K : Int)) ∧ w'.cell? ⟨q.a, 4, none⟩ = some (.pointer (some ⟨q.s, 0, none⟩))) (first | exact HE5.out.S | exact HE4.out.S | exact HE3.out.S | exact HE2.out.S | exact HE1.out.S | exact HE.out.S | exact HE.out.drew.S | exact HE2.out.drew.S)
    (first | (go_at_call 33; refine (refRegAt_any _ _).mono ?_; rintro e wn ⟨rfl, rfl⟩; skip) | (go_at_call 34; refine (refRootAt_any c _ _ HM.out).mono ?_; rintro e wn ⟨rfl, hb⟩; have HE1 := Lib.hid (HE.out.drew.later hb); clear hb) | (go_at_call 35; refine (refWordAt_any c _ _ _ HM.out).mono ?_; rintro e wn ⟨rfl, hb⟩; have HE2 := Lib.hid (HE1.out.later hb); clear hb))
  have cc0 := HE2.out.S.1
  have cc1 := HE2.out.S.2.1
  have cc2 := HE2.out.S.2.2.1
  have cc3 := HE2.out.S.2.2.2.1
  go_wp2_with fail
  refine (setword_any p c s i v (u32of x) _ HE2.out.gd HX.out.1 HX.out.2).mono ?_
  rintro e w3 ⟨rfl, hG, hT⟩
  have HE3 := Lib.hid (HE2.out.stepG hG hT)
  clear hG hT
  go_wp2_with fail
  refine (rsetw_any q c s (wordA c i v) (u32of x) _ HE3.out.rf (fun k hk => wordA_lt hk) HX.out.1 HX.out.2).mono ?_
  rintro e w4 ⟨rfl, hG, hT⟩
  have HE4 := Lib.hid (HE3.out.stepR hG hT)
  clear hG hT
  go_wp2_with fail
  go_ret
  exact ⟨rfl, HE4.out.duo, HE4.out.tch⟩

set_option maxRecDepth 100000 in
set_option maxHeartbeats 1000000 in
theorem doSee (p q : Pl) (c : Cf) (s : St) (kind i v x : Int) (w : World) (hD : Duo w p q c s) (hk : 7 ≤ kind) :
    Calls Try.prog 13 #[.pointer (some ⟨p.a, 0, none⟩), .pointer (some ⟨q.a, 0, none⟩), .agg #[.int .u8 kind, .int .i64 i, .int .i64 v, .int .i64 x]] w (ActP w p q c s) := by
  have b0 : (kind == 0) = false := bne_of' (by omega)
  have b1 : (kind == 1) = false := bne_of' (by omega)
  have b2 : (kind == 2) = false := bne_of' (by omega)
  have b3 : (kind == 3) = false := bne_of' (by omega)
  have b4 : (kind == 4) = false := bne_of' (by omega)
  have b5 : (kind == 5) = false := bne_of' (by omega)
  have b6 : (kind == 6) = false := bne_of' (by omega)
  have hwr : IntKind.i64.wrap (s.at? (wordA c i v)) = s.at? (wordA c i v) := by have := St.at?_wf hD.gd.wf (wordA c i v); exact IntWalk.i64_in _ (by omega)
  clear hk
  have HM := Lib.hid hD.gd.may
  have HE := Lib.hid (hD.env (boxC kind i v x))
  have cb0 := HE.out.S.1
  clear hD
  go_enter Try.func13, Try.ntmps13
  go_wp2_with fail
  go_region_held3 (fun w' => w'.cell? ⟨w.heap.size, 0, none⟩ = some (.int .u8 kind) ∧ w'.cell? ⟨w.heap.size, 1, none⟩ = some (.int .i64 i) ∧ w'.cell? ⟨w.heap.size, 2, none⟩ = some (.int .i64 v) ∧ w'.cell? ⟨w.heap.size, 3, none⟩ = some (.int .i64 x) ∧ w'.cell? ⟨q.a, 0, none⟩ = some (.int .i64 (c.N : Int)) ∧ w'.cell? ⟨q.a, 1, none⟩ = some (.int .i64 (c.W : Int)) ∧ w'.cell? ⟨q.a, 2, none⟩ = some (.int .i64 (c.R : Int)) ∧ w'.cell? ⟨q.a, 3, none⟩ = some (.int .i64 (c.K : Int)) ∧ w'.cell? ⟨q.a, 4, none⟩ = some (.pointer (some ⟨q.s, 0, none⟩))) (first | exact HE5.out.S | exact HE4.out.S | exact HE3.out.S | exact HE2.out.S | exact HE1.out.S | exact HE.out.S | exact HE.out.drew.S | exact HE2.out.drew.S)
    (first | (go_at_call 33; refine (refRegAt_any _ _).mono ?_; rintro e wn ⟨rfl, rfl⟩; skip) | (go_at_call 34; refine (refRootAt_any c _ _ HM.out).mono ?_; rintro e wn ⟨rfl, hb⟩; have HE1 := Lib.hid (HE.out.drew.later hb); clear hb) | (go_at_call 35; refine (refWordAt_any c _ _ _ HM.out).mono ?_; rintro e wn ⟨rfl, hb⟩; have HE2 := Lib.hid (HE1.out.later hb); clear hb))
  have cc0 := HE2.out.S.1
  have cc1 := HE2.out.S.2.1
  have cc2 := HE2.out.S.2.2.1
  go_wp2_with fail
  refine (seereg_any p c s i _ HE2.out.gd).mono ?_
  rintro e w3 ⟨rfl, rfl⟩
  go_wp2_with fail
  refine (rsee_any q c s (regA i) _ HE2.out.rf (fun k hk => regA_lt hk)).mono ?_
  rintro e w3 ⟨rfl, rfl⟩
  go_wp2_with fail
  refine (seeroot_any p c s i _ HE2.out.gd).mono ?_
  rintro e w3 ⟨rfl, rfl⟩
  go_wp2_with fail
  refine (rsee_any q c s (rootA c i) _ HE2.out.rf (fun k hk => rootA_lt hk)).mono ?_
  rintro e w3 ⟨rfl, rfl⟩
  go_wp2_with fail
  refine (seeword_any p c s i v _ HE2.out.gd).mono ?_
  rintro e w3 ⟨rfl, hd⟩
  have HE3 := Lib.hid (HE2.out.later hd.new)
  clear hd
  go_wp2_with fail
  refine (rsee_any q c s (wordA c i v) _ HE3.out.rf (fun k hk => wordA_lt hk)).mono ?_
  rintro e w4 ⟨rfl, rfl⟩
  go_wp2_with fail
  go_ret
  exact ⟨rfl, HE3.out.duo, HE3.out.tch⟩

/-- What any act leaves. -/
def actS (c : Cf) (s : St) (k i v x : Int) : St :=
  if k = 0 then s.ask (regA i) else if k = 1 then s.putN (regA i) x else if k = 2 then s.ask (rootA c i) else if k = 3 then s.putN (rootA c i) x
  else if k = 4 then s.ask (wordA c i v) else if k = 5 then s.put (wordA c i v) (u32of x) else if k = 6 then s.wiped c i else s
theorem doAny (p q : Pl) (c : Cf) (s : St) (k i v x : Int) (w : World) (hD : Duo w p q c s) (h0 : 0 ≤ k) :
    Calls Try.prog 13 #[.pointer (some ⟨p.a, 0, none⟩), .pointer (some ⟨q.a, 0, none⟩), .agg #[.int .u8 k, .int .i64 i, .int .i64 v, .int .i64 x]] w (ActP w p q c (actS c s k i v x)) := by
  unfold actS
  by_cases k0 : k = 0
  · subst k0; exact doReg p q c s i v x w hD
  rw [if_neg k0]
  by_cases k1 : k = 1
  · subst k1; exact doSetReg p q c s i v x w hD
  rw [if_neg k1]
  by_cases k2 : k = 2
  · subst k2; exact doRoot p q c s i v x w hD
  rw [if_neg k2]
  by_cases k3 : k = 3
  · subst k3; exact doSetRoot p q c s i v x w hD
  rw [if_neg k3]
  by_cases k4 : k = 4
  · subst k4; exact doWord p q c s i v x w hD
  rw [if_neg k4]
  by_cases k5 : k = 5
  · subst k5; exact doSetWord p q c s i v x w hD
  rw [if_neg k5]
  by_cases k6 : k = 6
  · subst k6; exact doWipe p q c s i v x w hD
  rw [if_neg k6]
  exact doSee p q c s k i v x w hD (by omega)

end Go.Proofs.Ytcknmholembjaaa.Pk
