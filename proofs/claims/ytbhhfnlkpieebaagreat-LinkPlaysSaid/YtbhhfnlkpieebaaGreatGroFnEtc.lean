/-
  Texts laid together: GroFn, ChainMath, Acts, RingMath, PoolMath, TagI.
-/
import Derived.Test.YtbhhfnlkpieebaaGreatStoFn
import Derived.Test.YtbhhfnlkpieebaaGreatBaseEtc
import Derived.Test.YtbhhfnlkpieebaaGreatPlanFn
import Derived.BigQuiet
import Derived.IntWalk
import Derived.LoopTactic
namespace Go.Proofs.YtbhhfnlkpieebaaGreat.Pk
open Lib (hid)
open Go.RowKit
set_option linter.unusedVariables false
set_option linter.unusedSimpArgs false
theorem nM {a b : Int} (h : a ≠ b) : (a == b) = false := by rw [beq_eq_false_iff_ne]; exact h
structure Cf where
 N : Nat
 W : Nat
 R : Nat
 K : Nat
def Cf.May (c : Cf) : Prop := Pk.May (c.N : Int) (c.W : Int) (c.R : Int) (c.K : Int)
def Cf.size (c : Cf) : Nat := 24 + c.R + c.N * c.W
def Cf.val (c : Cf) : Value := .agg #[.int .i64 (c.N : Int), .int .i64 (c.W : Int), .int .i64 (c.R : Int), .int .i64 (c.K : Int)]
theorem Cf.May.nw {c : Cf} (h : c.May) : 16 ≤ c.N * c.W ∧ c.N * c.W ≤ 4194304 := by
 obtain ⟨h1, h2⟩ := Ht h
 have e : ((c.N * c.W : Nat) : Int) = (c.N : Int) * (c.W : Int) := Int.natCast_mul _ _
 omega
theorem Cf.May.n {c : Cf} (h : c.May) : 1 ≤ c.N ∧ c.N ≤ 1048576 := by have := h.n0; have := h.n1; omega
theorem Cf.May.w {c : Cf} (h : c.May) : 16 ≤ c.W ∧ c.W ≤ 256 := by have := h.w0; have := h.w1; omega
theorem Cf.May.r {c : Cf} (h : c.May) : 1 ≤ c.R ∧ c.R ≤ 4096 := by have := h.r0; have := h.r1; omega
theorem Cf.May.k {c : Cf} (h : c.May) : 1 ≤ c.K ∧ c.K ≤ 65536 := by have := h.k0; have := h.k1; omega
theorem Cf.May.size {c : Cf} (h : c.May) : 41 ≤ c.size ∧ c.size ≤ 4198424 := by
 have := h.nw; have := h.r; unfold Cf.size; omega
structure Pl where
 a : Nat
 s : Nat
 g : Nat
structure St where
 zs : List Int
 m : Nat
def Gy (zs : List Int) : Prop := ∀ k, 0 ≤ nth zs k ∧ nth zs k ≤ 4294967295
theorem aZ {zs : List Int} {k : Nat} (hk : k < zs.length) (v : Int) : nth (zs.set k v) k = v := by unfold nth; simp [List.getD, hk]
theorem ax {zs : List Int} {k j : Nat} (h : k ≠ j) (v : Int) : nth (zs.set k v) j = nth zs j := by unfold nth; simp [List.getD, h]
theorem dL {zs : List Int} {k : Nat} (hk : zs.length ≤ k) : nth zs k = 0 := by unfold nth; simp [List.getD, hk]
theorem sK (q k : Nat) : nth (List.replicate q 0) k = 0 := by
 unfold nth
 rw [List.getD_eq_getElem?_getD, List.getElem?_replicate]
 split <;> rfl
theorem Gy.set {zs : List Int} (h : Gy zs) (k : Nat) {v : Int} (h0 : 0 ≤ v) (h1 : v ≤ 4294967295) : Gy (zs.set k v) := by
 intro j
 by_cases e : k = j
 · subst e
   by_cases hk : k < zs.length
   · rw [aZ hk]; exact ⟨h0, h1⟩
   · rw [dL (by simp; omega)]; omega
 · rw [ax e]; exact h j
theorem Gy.ry (q : Nat) : Gy (List.replicate q 0) := fun k => by rw [sK]; omega
structure mO (tg ts e : TypeId) (w : World) (p : Pl) (c : Cf) (s : St) : Prop where
 head : aU w p.a #[.pointer (some ⟨p.s, 0, none⟩), .int .i64 (c.N : Int), .int .i64 (c.W : Int), .int .i64 (c.R : Int), .int .i64 (c.K : Int)] tg
 st : qh w ts e p.s p.g s.zs (iO s.m)
 len : s.zs.length = c.size
 as_ : p.a ≠ p.s
 ag : p.a ≠ p.g
 may : c.May
 wf : Gy s.zs
def ak (p : Pl) : Nat → Prop := GU p.s p.g
def nU (p : Pl) : Nat → Prop := fun k => k = p.a ∨ GU p.s p.g k
theorem mO.touch {tg ts e : TypeId} {X : Nat → Prop} {w w' : World} {p : Pl} {c : Cf} {s : St} (h : mO tg ts e w p c s) (k : Touch X w w') (hX : ∀ b, nU p b → ¬ X b) : mO tg ts e w' p c s :=
 ⟨h.head.touch k (hX _ (.inl rfl)), h.st.touch k (hX _ (.inr (.inl rfl))) (hX _ (.inr (.inr rfl))), h.len, h.as_, h.ag, h.may, h.wf⟩
theorem mO.later {tg ts e : TypeId} {w w' : World} {p : Pl} {c : Cf} {s : St} (h : mO tg ts e w p c s) (k : Below w.heap.size w w') : mO tg ts e w' p c s :=
 ⟨h.head.later k, h.st.later k, h.len, h.as_, h.ag, h.may, h.wf⟩
theorem mO.drew {tg ts e : TypeId} {w : World} {p : Pl} {c : Cf} {s : St} (h : mO tg ts e w p c s) : mO tg ts e w.drew p c s := ⟨h.head.drew, h.st.drew, h.len, h.as_, h.ag, h.may, h.wf⟩
theorem mO.alloc {tg ts e : TypeId} {w : World} {p : Pl} {c : Cf} {s : St} (h : mO tg ts e w p c s) (o : Obj) : mO tg ts e (w.alloc o) p c s := ⟨h.head.alloc o, h.st.alloc o, h.len, h.as_, h.ag, h.may, h.wf⟩
theorem mO.gy {tg ts e : TypeId} {w w' : World} {p : Pl} {c : Cf} {s : St} (h : mO tg ts e w p c s) (k : fe w w') : mO tg ts e w' p c s := h.later k.new
theorem mO.ptr {tg ts e : TypeId} {w : World} {p : Pl} {c : Cf} {s : St} (h : mO tg ts e w p c s) : w.cell? ⟨p.a, 0, none⟩ = some (.pointer (some ⟨p.s, 0, none⟩)) := h.head.cell 0 rfl
theorem mO.cN {tg ts e : TypeId} {w : World} {p : Pl} {c : Cf} {s : St} (h : mO tg ts e w p c s) : w.cell? ⟨p.a, 1, none⟩ = some (.int .i64 (c.N : Int)) := h.head.cell 1 rfl
theorem mO.cW {tg ts e : TypeId} {w : World} {p : Pl} {c : Cf} {s : St} (h : mO tg ts e w p c s) : w.cell? ⟨p.a, 2, none⟩ = some (.int .i64 (c.W : Int)) := h.head.cell 2 rfl
theorem mO.cR {tg ts e : TypeId} {w : World} {p : Pl} {c : Cf} {s : St} (h : mO tg ts e w p c s) : w.cell? ⟨p.a, 3, none⟩ = some (.int .i64 (c.R : Int)) := h.head.cell 3 rfl
theorem mO.cK {tg ts e : TypeId} {w : World} {p : Pl} {c : Cf} {s : St} (h : mO tg ts e w p c s) : w.cell? ⟨p.a, 4, none⟩ = some (.int .i64 (c.K : Int)) := h.head.cell 4 rfl
theorem mO.step {tg ts e : TypeId} {w w' : World} {p : Pl} {c : Cf} {s s' : St} (h : mO tg ts e w p c s) (hS : qh w' ts e p.s p.g s'.zs (iO s'.m)) (k : Touch (ak p) w w') (hl : s'.zs.length = s.zs.length) (hw : Gy s'.zs) : mO tg ts e w' p c s' :=
 ⟨h.head.touch k (by have := h.as_; have := h.ag; unfold ak GU; omega), hS, hl.trans h.len, h.as_, h.ag, h.may, hw⟩
def St.got (s : St) : St := ⟨s.zs, s.m + 1⟩
def St.set (s : St) (k : Nat) (v : Int) : St := ⟨s.zs.set k v, s.m + 1⟩
theorem St.vY (s : St) (k : Nat) (v : Int) : (s.set k v).zs.length = s.zs.length := by simp [St.set]
def kF (n : Int) (b : Nat) : Bool := decide (0 ≤ n ∧ n < (b : Int))
theorem lZ {n : Int} {b : Nat} (h : kF n b = true) : ∃ k : Nat, n = (k : Int) ∧ k < b := by
 unfold kF at h
 have := of_decide_eq_true h
 exact ⟨n.toNat, by omega, by omega⟩
theorem ky {k b : Nat} (h : k < b) : kF (k : Int) b = true := by unfold kF; exact decide_eq_true (by omega)
theorem Ps {n : Int} {b : Nat} (h : kF n b = false) : n < 0 ∨ (b : Int) ≤ n := by
 unfold kF at h
 have := of_decide_eq_false h
 omega
def pU (r : Int) : Option Nat := if kF r 24 then some r.toNat else none
def aO (c : Cf) (b w : Int) : Option Nat := if kF b c.N && kF w c.W then some (24 + c.R + b.toNat * c.W + w.toNat) else none
theorem nE {c : Cf} {b w : Nat} (hb : b < c.N) (hw : w < c.W) : 24 + c.R + b * c.W + w < c.size := by
 have h : (b + 1) * c.W ≤ c.N * c.W := Nat.mul_le_mul_right _ hb
 rw [Nat.add_mul, Nat.one_mul] at h
 unfold Cf.size
 omega
theorem Bf {c : Cf} {r : Int} {k : Nat} (h : pU r = some k) : k < c.size := by
 unfold pU at h
 split at h
 · rename_i hb
   obtain ⟨j, rfl, hj⟩ := lZ hb
   cases h
   unfold Cf.size
   omega
 · cases h
theorem yf {c : Cf} {b w : Int} {k : Nat} (h : aO c b w = some k) : k < c.size := by
 unfold aO at h
 split at h
 · rename_i hb
   rw [Bool.and_eq_true] at hb
   obtain ⟨j, rfl, hj⟩ := lZ hb.1
   obtain ⟨i, rfl, hi⟩ := lZ hb.2
   cases h
   exact nE hj hi
 · cases h
def St.at? (s : St) (k : Option Nat) : Int := match k with | some k => nth s.zs k | none => 0
def St.ask (s : St) (k : Option Nat) : St := match k with | some _ => s.got | none => s
def St.put (s : St) (k : Option Nat) (v : Int) : St := match k with | some k => s.set k v | none => s
def rZ (v : Int) : Bool := decide (0 ≤ v ∧ v ≤ 4294967295)
def St.DC (s : St) (k : Option Nat) (v : Int) : St := if rZ v then s.put k v else s
def LJ (k : Option Nat) (v : Int) : Bool := k.isSome && rZ v
theorem St.at?_wf {s : St} (h : Gy s.zs) (k : Option Nat) : 0 ≤ s.at? k ∧ s.at? k ≤ 4294967295 := by
 cases k with
 | none => show (0:Int) ≤ 0 ∧ (0:Int) ≤ 4294967295; decide
 | some k => exact h k
theorem IG {v : Int} (h : rZ v = true) : 0 ≤ v ∧ v ≤ 4294967295 := of_decide_eq_true h
theorem Cv {v : Int} (h0 : 0 ≤ v) (h1 : v ≤ 4294967295) : rZ v = true := decide_eq_true ⟨h0, h1⟩
def QQ (tg ts e : TypeId) (w : World) (p : Pl) (c : Cf) (s : St) (v : Value) (en : Ending) (w' : World) : Prop :=
 en = .returned v ∧ mO tg ts e w' p c s ∧ Touch (ak p) w w'
abbrev G := mO 103 155 116
abbrev GP := QQ 103 155 116
theorem zf (n b : Int) (w : World) : Calls Tryz.prog 192 #[.int .i64 n, .int .i64 b] w fun e w' => e = .returned (.bool (decide (0 ≤ n ∧ n < b))) ∧ w = w' := by
 by_cases h : 0 ≤ n
 · go_enter Tryz.func192, Tryz.ntmps192
   go_wp2
   go_ret
   exact ⟨aK (by simp [h]), rfl⟩
 · have h' : n < 0 := by omega
   go_enter Tryz.func192, Tryz.ntmps192
   go_wp2
   go_ret
   exact ⟨aK (by simp; omega), rfl⟩
theorem lu (n : Int) (b : Nat) (w : World) : Calls Tryz.prog 192 #[.int .i64 n, .int .i64 (b : Int)] w fun e w' => e = .returned (.bool (kF n b)) ∧ w = w' := zf n b w
theorem ww (n : Int) (w : World) : Calls Tryz.prog 192 #[.int .i64 n, .int .i64 24] w fun e w' => e = .returned (.bool (kF n 24)) ∧ w = w' := zf n 24 w
theorem wH (n : Int) (w : World) : Calls Tryz.prog 155 #[.int .i64 n] w fun e w' => e = .returned (.bool (rZ n)) ∧ w = w' := by
 by_cases h : 0 ≤ n
 · go_enter Tryz.func155, Tryz.ntmps155
   go_wp2
   go_ret
   exact ⟨aK (by unfold rZ; simp [h]), rfl⟩
 · have h' : n < 0 := by omega
   go_enter Tryz.func155, Tryz.ntmps155
   go_wp2
   go_ret
   exact ⟨aK (by unfold rZ; simp; omega), rfl⟩
theorem Nq {P : Program} {f : FuncId} {args : Array Value} {w : World} {a b : Bool} (h : Calls P f args w fun e w' => e = .returned (.bool a) ∧ w = w') (hab : a = b) :
   Calls P f args w fun e w' => e = .returned (.bool b) ∧ w = w' := hab ▸ h
theorem EK {P : Program} {f : FuncId} {args : Array Value} {w : World} {a b : Value} {Q : World → Prop} (h : Calls P f args w fun e w' => e = .returned a ∧ Q w') (hab : a = b) :
   Calls P f args w fun e w' => e = .returned b ∧ Q w' := hab ▸ h
def OX (k : Option Nat) : Value := match k with | some k => .tuple #[.int .i64 (k : Int), .bool true] | none => .tuple #[.int .i64 0, .bool false]
theorem jZ {o : Option Nat} {k : Nat} (h : o = some k) : OX o = .tuple #[.int .i64 (k : Int), .bool true] := by rw [h]; rfl
theorem lm {o : Option Nat} (h : o = none) : OX o = .tuple #[.int .i64 0, .bool false] := by rw [h]; rfl
theorem jP (p : Pl) (c : Cf) (s : St) (r : Int) (w : World) (hG : G w p c s) :
   Calls Tryz.prog 145 #[.pointer (some ⟨p.a, 0, none⟩), .int .i64 r] w fun e w' => e = .returned (OX (pU r)) ∧ w = w' := by
 clear hG
 by_cases h : kF r 24 = true
 · obtain ⟨k, rfl, hk⟩ := lZ h
   have e1 : pU (k : Int) = some k := by unfold pU; rw [if_pos h]; simp
   rw [e1]
   clear e1
   go_enter Tryz.func145, Tryz.ntmps145
   go_wp2_with fail
   refine (Nq (ww _ _) h).mono ?_
   rintro e w1 ⟨rfl, rfl⟩
   go_wp2_with fail
   go_ret2
   exact ⟨rfl, rfl⟩
 · have h' : kF r 24 = false := by simpa using h
   have e1 : pU r = none := by unfold pU; rw [if_neg h]
   rw [e1]
   clear e1
   go_enter Tryz.func145, Tryz.ntmps145
   go_wp2_with fail
   refine (Nq (ww _ _) h').mono ?_
   rintro e w1 ⟨rfl, rfl⟩
   go_wp2_with fail
   go_ret2
   exact ⟨rfl, rfl⟩
theorem Gv (p : Pl) (c : Cf) (s : St) (b v : Nat) (w : World) (hG : G w p c s) (hb : b < c.N) (hv : v < c.W) :
   Calls Tryz.prog 158 #[.pointer (some ⟨p.a, 0, none⟩), .int .i64 (b : Int), .int .i64 (v : Int)] w fun e w' => e = .returned (OX (some (24 + c.R + b * c.W + v))) ∧ fe w w' := by
 have cN := hG.cN
 have cW := hG.cW
 have cR := hG.cR
 have hR := hG.may.r
 have hW := hG.may.w
 have hN := hG.may.n
 have hsz := hG.may.size
 have hlt := nE hb hv
 have e0 : ((b * c.W : Nat) : Int) = (b : Int) * (c.W : Int) := Int.natCast_mul _ _
 have hbw : 0 ≤ (b : Int) * (c.W : Int) ∧ (b : Int) * (c.W : Int) ≤ 4198424 := by omega
 clear hG
 have w1 : IntKind.i64.wrap (24 + (c.R : Int)) = 24 + (c.R : Int) := IntWalk.i64_in _ (by omega)
 have w2 : IntKind.i64.wrap ((b : Int) * (c.W : Int)) = (b : Int) * (c.W : Int) := by
   generalize (b : Int) * (c.W : Int) = x at hbw ⊢
   exact IntWalk.i64_in _ (by omega)
 have w3 : IntKind.i64.wrap (24 + (c.R : Int) + (b : Int) * (c.W : Int)) = 24 + (c.R : Int) + (b : Int) * (c.W : Int) := by
   generalize (b : Int) * (c.W : Int) = x at hbw ⊢
   exact IntWalk.i64_in _ (by omega)
 have w4 : IntKind.i64.wrap (24 + (c.R : Int) + (b : Int) * (c.W : Int) + (v : Int)) = 24 + (c.R : Int) + (b : Int) * (c.W : Int) + (v : Int) := by
   generalize (b : Int) * (c.W : Int) = x at hbw ⊢
   exact IntWalk.i64_in _ (by omega)
 have hB := hid (ky hb)
 have hV := hid (ky hv)
 have E0 := hid e0
 clear hb hv e0 hlt hsz
 go_enter Tryz.func158, Tryz.ntmps158
 go_wp2_with fail
 refine (Nq (lu _ _ _) hB.out).mono ?_
 rintro e w1 ⟨rfl, rfl⟩
 go_wp2_with fail
 refine (Nq (lu _ _ _) hV.out).mono ?_
 rintro e w1 ⟨rfl, rfl⟩
 go_wp2_with fail
 go_quiet (fail)
 go_wp2_with fail
 go_ret2
 exact ⟨by have := E0.out; simp [OX], fe.refl _ |>.step _⟩
theorem Gt (p : Pl) (c : Cf) (s : St) (b v : Int) (w : World) (hG : G w p c s) (hb : kF b c.N = false) :
   Calls Tryz.prog 158 #[.pointer (some ⟨p.a, 0, none⟩), .int .i64 b, .int .i64 v] w fun e w' => e = .returned (OX none) ∧ fe w w' := by
 have cN := hG.cN
 have cW := hG.cW
 have hB := hid hb
 clear hG hb
 go_enter Tryz.func158, Tryz.ntmps158
 go_wp2_with fail
 refine (Nq (lu _ _ _) hB.out).mono ?_
 rintro e w1 ⟨rfl, rfl⟩
 go_wp2_with fail
 go_ret2
 exact ⟨rfl, fe.refl _⟩
theorem Gu (p : Pl) (c : Cf) (s : St) (b v : Int) (w : World) (hG : G w p c s) (hA0 : kF b c.N = true) (hb : kF v c.W = false) :
   Calls Tryz.prog 158 #[.pointer (some ⟨p.a, 0, none⟩), .int .i64 b, .int .i64 v] w fun e w' => e = .returned (OX none) ∧ fe w w' := by
 have cN := hG.cN
 have cW := hG.cW
 have hB := hid hb
 have hA := hid hA0
 clear hA0
 clear hG hb
 go_enter Tryz.func158, Tryz.ntmps158
 go_wp2_with fail
 refine (Nq (lu _ _ _) hA.out).mono ?_
 rintro e w1 ⟨rfl, rfl⟩
 go_wp2_with fail
 refine (Nq (lu _ _ _) hB.out).mono ?_
 rintro e w1 ⟨rfl, rfl⟩
 go_wp2_with fail
 go_ret2
 exact ⟨rfl, fe.refl _⟩
theorem gP (p : Pl) (c : Cf) (s : St) (b v : Int) (w : World) (hG : G w p c s) :
   Calls Tryz.prog 158 #[.pointer (some ⟨p.a, 0, none⟩), .int .i64 b, .int .i64 v] w fun e w' => e = .returned (OX (aO c b v)) ∧ fe w w' := by
 by_cases h1 : kF b c.N = true
 · by_cases h2 : kF v c.W = true
   · obtain ⟨i, rfl, hi⟩ := lZ h1
     obtain ⟨j, rfl, hj⟩ := lZ h2
     have e : aO c (i : Int) (j : Int) = some (24 + c.R + i * c.W + j) := by unfold aO; rw [h1, h2]; simp
     rw [e]
     exact Gv p c s i j w hG hi hj
   · have e : aO c b v = none := by unfold aO; simp [h2]
     rw [e]
     exact Gu p c s b v w hG h1 (by simpa using h2)
 · have e : aO c b v = none := by unfold aO; simp [h1]
   rw [e]
   exact Gt p c s b v w hG (by simpa using h1)
theorem Oo (p : Pl) (c : Cf) (s : St) (r : Int) (w : World) (hG : G w p c s) :
   Calls Tryz.prog 89 #[.pointer (some ⟨p.a, 0, none⟩), .int .i64 r] w (GP w p c (s.ask (pU r)) (.int .i64 (s.at? (pU r)))) := by
 have HG := hid hG
 clear hG
 cases hk : pU r with
 | none =>
   have HK := hid hk
   clear hk
   go_enter Tryz.func89, Tryz.ntmps89
   go_wp2_with fail
   refine (EK (jP p c s r _ HG.out) (lm HK.out)).mono ?_
   rintro e w1 ⟨rfl, rfl⟩
   have HD := hid (fe.refl w)
   have HG1 := HG
   have cp := HG1.out.ptr
   go_wp2_with fail
   go_ret
   exact ⟨rfl, HG1.out, Touch.of_below (HD.out.new)⟩
 | some k =>
   have HK := hid hk
   have HL := hid (show k < s.zs.length by rw [HG.out.len]; exact Bf hk)
   clear hk
   have hwr : IntKind.i64.wrap (nth s.zs k) = nth s.zs k := by have := HG.out.wf k; exact IntWalk.i64_in _ (by omega)
   go_enter Tryz.func89, Tryz.ntmps89
   go_wp2_with fail
   refine (EK (jP p c s r _ HG.out) (jZ HK.out)).mono ?_
   rintro e w1 ⟨rfl, rfl⟩
   have HD := hid (fe.refl w)
   have HG1 := HG
   have cp := HG1.out.ptr
   go_wp2_with fail
   refine (De p.s p.g s.zs s.m k _ HG1.out.st HL.out).mono ?_
   rintro e w2 ⟨rfl, hS, hT⟩
   have HS := hid hS
   have HT := hid hT
   clear hS hT
   go_wp2_with fail
   go_ret
   exact ⟨rfl, HG1.out.step (s' := s.got) HS.out HT.out rfl HG1.out.wf, (Touch.of_below (HD.out.new)).trans HT.out⟩
theorem FW (p : Pl) (c : Cf) (s : St) (r : Int) (w : World) (hG : G w p c s) :
   Calls Tryz.prog 110 #[.pointer (some ⟨p.a, 0, none⟩), .int .i64 r] w fun e w' => e = .returned (.int .i64 (s.at? (pU r))) ∧ w = w' := by
 have HG := hid hG
 clear hG
 cases hk : pU r with
 | none =>
   have HK := hid hk
   clear hk
   go_enter Tryz.func110, Tryz.ntmps110
   go_wp2_with fail
   refine (EK (jP p c s r _ HG.out) (lm HK.out)).mono ?_
   rintro e w1 ⟨rfl, rfl⟩
   have HD := hid (fe.refl w)
   have HG1 := HG
   have cp := HG1.out.ptr
   go_wp2_with fail
   go_ret
   exact ⟨rfl, rfl⟩
 | some k =>
   have HK := hid hk
   have HL := hid (show k < s.zs.length by rw [HG.out.len]; exact Bf hk)
   clear hk
   have hwr : IntKind.i64.wrap (nth s.zs k) = nth s.zs k := by have := HG.out.wf k; exact IntWalk.i64_in _ (by omega)
   go_enter Tryz.func110, Tryz.ntmps110
   go_wp2_with fail
   refine (EK (jP p c s r _ HG.out) (jZ HK.out)).mono ?_
   rintro e w1 ⟨rfl, rfl⟩
   have HD := hid (fe.refl w)
   have HG1 := HG
   have cp := HG1.out.ptr
   go_wp2_with fail
   refine (Dq p.s p.g s.zs _ k _ HG1.out.st HL.out).mono ?_
   rintro e w2 ⟨rfl, rfl⟩
   go_wp2_with fail
   go_ret
   exact ⟨rfl, rfl⟩
theorem FX (p : Pl) (c : Cf) (s : St) (r : Int) (x : Int) (w : World) (hG : G w p c s) :
   Calls Tryz.prog 98 #[.pointer (some ⟨p.a, 0, none⟩), .int .i64 r, .int .i64 x] w (GP w p c (s.DC (pU r) x) (.bool (LJ (pU r) x))) := by
 have HG := hid hG
 clear hG
 cases hk : pU r with
 | none =>
   have HK := hid hk
   have E : Hid (s.DC none x = s) := hid (by unfold St.DC; split <;> rfl)
   clear hk
   go_enter Tryz.func98, Tryz.ntmps98
   go_wp2_with fail
   refine (EK (jP p c s r _ HG.out) (lm HK.out)).mono ?_
   rintro e w1 ⟨rfl, rfl⟩
   have HD := hid (fe.refl w)
   have HG1 := HG
   have cp := HG1.out.ptr
   go_wp2_with fail
   go_ret
   exact ⟨rfl, by rw [E.out]; exact HG1.out, Touch.of_below (HD.out.new)⟩
 | some k =>
   have HK := hid hk
   have HL := hid (show k < s.zs.length by rw [HG.out.len]; exact Bf hk)
   clear hk
   by_cases hf : rZ x = true
   · have hr := IG hf
     have hwr : IntKind.u32.wrap x = x := IntWalk.u32_in _ (by omega)
     have HF := hid hf
     clear hf
     go_enter Tryz.func98, Tryz.ntmps98
     go_wp2_with fail
     refine (EK (jP p c s r _ HG.out) (jZ HK.out)).mono ?_
     rintro e w1 ⟨rfl, rfl⟩
     have HD := hid (fe.refl w)
     have HG1 := HG
     have cp := HG1.out.ptr
     go_wp2_with fail
     refine (Nq (wH _ _) HF.out).mono ?_
     rintro e w1 ⟨rfl, rfl⟩
     go_wp2_with fail
     refine (wZ p.s p.g s.zs s.m x k _ HG1.out.st HL.out).mono ?_
     rintro e w2 ⟨rfl, hS, hT⟩
     have HS := hid hS
     have HT := hid hT
     clear hS hT
     go_wp2_with fail
     go_ret
     refine ⟨by unfold LJ; rw [HF.out]; rfl, ?_, (Touch.of_below (HD.out.new)).trans HT.out⟩
     rw [show s.DC (some k) x = s.set k x by unfold St.DC; rw [if_pos HF.out]; rfl]
     exact HG1.out.step (s' := s.set k x) HS.out HT.out (s.vY k x) (HG1.out.wf.set k hr.1 hr.2)
   · have HF := hid (show rZ x = false by simpa using hf)
     clear hf
     go_enter Tryz.func98, Tryz.ntmps98
     go_wp2_with fail
     refine (EK (jP p c s r _ HG.out) (jZ HK.out)).mono ?_
     rintro e w1 ⟨rfl, rfl⟩
     have HD := hid (fe.refl w)
     have HG1 := HG
     have cp := HG1.out.ptr
     go_wp2_with fail
     refine (Nq (wH _ _) HF.out).mono ?_
     rintro e w1 ⟨rfl, rfl⟩
     go_wp2_with fail
     go_ret
     exact ⟨by unfold LJ; rw [HF.out]; rfl, by unfold St.DC; rw [if_neg (by rw [HF.out]; simp)]; exact HG1.out, Touch.of_below (HD.out.new)⟩
theorem yg (p : Pl) (c : Cf) (s : St) (b v : Int) (w : World) (hG : G w p c s) :
   Calls Tryz.prog 100 #[.pointer (some ⟨p.a, 0, none⟩), .int .i64 b, .int .i64 v] w (GP w p c (s.ask (aO c b v)) (.int .u32 (s.at? (aO c b v)))) := by
 have HG := hid hG
 clear hG
 cases hk : aO c b v with
 | none =>
   have HK := hid hk
   clear hk
   go_enter Tryz.func100, Tryz.ntmps100
   go_wp2_with fail
   refine (EK (gP p c s b v _ HG.out) (lm HK.out)).mono ?_
   rintro e w1 ⟨rfl, hd⟩
   have HD := hid hd
   have HG1 := hid (HG.out.gy hd)
   have cp := HG1.out.ptr
   clear hd
   go_wp2_with fail
   go_ret
   exact ⟨rfl, HG1.out, Touch.of_below (HD.out.new)⟩
 | some k =>
   have HK := hid hk
   have HL := hid (show k < s.zs.length by rw [HG.out.len]; exact yf hk)
   clear hk
   go_enter Tryz.func100, Tryz.ntmps100
   go_wp2_with fail
   refine (EK (gP p c s b v _ HG.out) (jZ HK.out)).mono ?_
   rintro e w1 ⟨rfl, hd⟩
   have HD := hid hd
   have HG1 := hid (HG.out.gy hd)
   have cp := HG1.out.ptr
   clear hd
   go_wp2_with fail
   refine (De p.s p.g s.zs s.m k _ HG1.out.st HL.out).mono ?_
   rintro e w2 ⟨rfl, hS, hT⟩
   have HS := hid hS
   have HT := hid hT
   clear hS hT
   go_wp2_with fail
   go_ret
   exact ⟨rfl, HG1.out.step (s' := s.got) HS.out HT.out rfl HG1.out.wf, (Touch.of_below (HD.out.new)).trans HT.out⟩
theorem vw (p : Pl) (c : Cf) (s : St) (b v : Int) (w : World) (hG : G w p c s) :
   Calls Tryz.prog 142 #[.pointer (some ⟨p.a, 0, none⟩), .int .i64 b, .int .i64 v] w fun e w' => e = .returned (.int .u32 (s.at? (aO c b v))) ∧ fe w w' := by
 have HG := hid hG
 clear hG
 cases hk : aO c b v with
 | none =>
   have HK := hid hk
   clear hk
   go_enter Tryz.func142, Tryz.ntmps142
   go_wp2_with fail
   refine (EK (gP p c s b v _ HG.out) (lm HK.out)).mono ?_
   rintro e w1 ⟨rfl, hd⟩
   have HD := hid hd
   have HG1 := hid (HG.out.gy hd)
   have cp := HG1.out.ptr
   clear hd
   go_wp2_with fail
   go_ret
   exact ⟨rfl, HD.out⟩
 | some k =>
   have HK := hid hk
   have HL := hid (show k < s.zs.length by rw [HG.out.len]; exact yf hk)
   clear hk
   go_enter Tryz.func142, Tryz.ntmps142
   go_wp2_with fail
   refine (EK (gP p c s b v _ HG.out) (jZ HK.out)).mono ?_
   rintro e w1 ⟨rfl, hd⟩
   have HD := hid hd
   have HG1 := hid (HG.out.gy hd)
   have cp := HG1.out.ptr
   clear hd
   go_wp2_with fail
   refine (Dq p.s p.g s.zs _ k _ HG1.out.st HL.out).mono ?_
   rintro e w2 ⟨rfl, rfl⟩
   go_wp2_with fail
   go_ret
   exact ⟨rfl, HD.out⟩
theorem DV (p : Pl) (c : Cf) (s : St) (b v : Int) (x : Int) (w : World) (hG : G w p c s) (h0 : 0 ≤ x) (h1 : x ≤ 4294967295) :
   Calls Tryz.prog 114 #[.pointer (some ⟨p.a, 0, none⟩), .int .i64 b, .int .i64 v, .int .u32 x] w (GP w p c (s.put (aO c b v) x) (.bool (aO c b v).isSome)) := by
 have HG := hid hG
 clear hG
 cases hk : aO c b v with
 | none =>
   have HK := hid hk
   clear hk
   go_enter Tryz.func114, Tryz.ntmps114
   go_wp2_with fail
   refine (EK (gP p c s b v _ HG.out) (lm HK.out)).mono ?_
   rintro e w1 ⟨rfl, hd⟩
   have HD := hid hd
   have HG1 := hid (HG.out.gy hd)
   have cp := HG1.out.ptr
   clear hd
   go_wp2_with fail
   go_ret
   exact ⟨rfl, HG1.out, Touch.of_below (HD.out.new)⟩
 | some k =>
   have HK := hid hk
   have HL := hid (show k < s.zs.length by rw [HG.out.len]; exact yf hk)
   clear hk
   go_enter Tryz.func114, Tryz.ntmps114
   go_wp2_with fail
   refine (EK (gP p c s b v _ HG.out) (jZ HK.out)).mono ?_
   rintro e w1 ⟨rfl, hd⟩
   have HD := hid hd
   have HG1 := hid (HG.out.gy hd)
   have cp := HG1.out.ptr
   clear hd
   go_wp2_with fail
   refine (wZ p.s p.g s.zs s.m x k _ HG1.out.st HL.out).mono ?_
   rintro e w2 ⟨rfl, hS, hT⟩
   have HS := hid hS
   have HT := hid hT
   clear hS hT
   go_wp2_with fail
   go_ret
   exact ⟨rfl, HG1.out.step (s' := s.set k x) HS.out HT.out (s.vY k x) (HG1.out.wf.set k h0 h1), (Touch.of_below (HD.out.new)).trans HT.out⟩
theorem Fb (p : Pl) (c : Cf) (s : St) (w : World) (hG : G w p c s) :
   Calls Tryz.prog 21 #[.pointer (some ⟨p.a, 0, none⟩)] w fun e w' => e = .returned (.int .u64 (iO s.m)) ∧ w = w' := by
 have cp := hG.ptr
 have HG := hid hG
 clear hG
 go_enter Tryz.func21, Tryz.ntmps21
 go_wp2_with fail
 refine (Je p.s p.g s.zs _ _ HG.out.st).mono ?_
 rintro e w1 ⟨rfl, rfl⟩
 go_wp2_with fail
 go_ret
 exact ⟨rfl, rfl⟩
theorem zx (p : Pl) (c : Cf) (s : St) (w : World) (hG : G w p c s) :
   Calls Tryz.prog 29 #[.pointer (some ⟨p.a, 0, none⟩)] w fun e w' => e = .returned c.val ∧ Below w.heap.size w w' := by
 have cN := hG.cN
 have cW := hG.cW
 have cR := hG.cR
 have cK := hG.cK
 have ha := hG.head.lt
 clear hG
 go_enter Tryz.func29, Tryz.ntmps29
 go_wp2_with fail
 exact bodyPost_ret (v := c.val) (by simp [results, Tryz.results29, go_sem, Cf.val]) rfl ⟨rfl, by
   repeat refine Below.setCell ?_ (by simp) _
   exact ah w _⟩
def St.nD (s : St) (f : Nat) : Nat → St
 | 0 => s
 | n + 1 => (s.nD f n).set (f + n) 0
theorem St.tV (s : St) (f n : Nat) : (s.nD f n).zs.length = s.zs.length := by
 induction n with
 | zero => rfl
 | succ n ih => rw [← ih]; exact St.vY _ _ _
theorem St.QM (s : St) (f n : Nat) : (s.nD f n).m = s.m + n := by
 induction n with
 | zero => rfl
 | succ n ih => show (s.nD f n).m + 1 = _; omega
theorem St.MV (s : St) (f n k : Nat) (h : f + n ≤ s.zs.length) : nth (s.nD f n).zs k = if f ≤ k ∧ k < f + n then 0 else nth s.zs k := by
 induction n with
 | zero => rw [if_neg (by omega)]; rfl
 | succ n ih =>
   show nth ((s.nD f n).zs.set (f + n) 0) k = _
   by_cases e : f + n = k
   · subst e
     rw [aZ (by rw [St.tV]; omega), if_pos (by omega)]
   · rw [ax e, ih (by omega)]
     by_cases h1 : f ≤ k ∧ k < f + n
     · rw [if_pos h1, if_pos (by omega)]
     · rw [if_neg h1, if_neg (by omega)]
theorem Gy.nD {s : St} (h : Gy s.zs) (f n : Nat) : Gy (s.nD f n).zs := by
 induction n with
 | zero => exact h
 | succ n ih => exact Gy.set ih _ (Int.le_refl _) (by decide)
def St.xZ (s : St) (c : Cf) (b : Int) : St := match aO c b 0 with | some f => s.nD f c.W | none => s
def MR (c : Cf) (b : Int) : Int := if kF b c.N then (c.W : Int) else 0
theorem MU (p : Pl) (c : Cf) (s : St) (b : Int) (w : World) (hG : G w p c s) :
   Calls Tryz.prog 224 #[.pointer (some ⟨p.a, 0, none⟩), .int .i64 b] w (GP w p c (s.xZ c b) (.int .i64 (MR c b))) := by
 have HG := hid hG
 clear hG
 have e0 : ((0 : Nat) : Int) = 0 := rfl
 cases hk : aO c b 0 with
 | none =>
   have HK := hid hk
   have HB : Hid (kF b c.N = false) := hid (by
     have := HG.out.may.w
     cases hb : kF b c.N with
     | false => rfl
     | true =>
       have h2 : kF (0 : Int) c.W = true := ky (k := 0) (by omega)
       rw [aO, hb, h2] at hk
       cases hk)
   clear hk
   go_enter Tryz.func224, Tryz.ntmps224
   go_wp2_with fail
   refine (EK (gP p c s b 0 _ HG.out) (lm HK.out)).mono ?_
   rintro e w1 ⟨rfl, hd⟩
   have HD := hid hd
   clear hd
   go_wp2_with fail
   go_ret
   refine ⟨by unfold MR; rw [HB.out]; rfl, ?_, Touch.of_below HD.out.new⟩
   rw [show s.xZ c b = s by unfold St.xZ; rw [HK.out]]
   exact HG.out.gy HD.out
 | some f =>
   have HK := hid hk
   have hB : kF b c.N = true := by
     cases hb : kF b c.N with
     | true => rfl
     | false => rw [aO, hb] at hk; cases hk
   have HF : Hid (f + c.W ≤ c.size) := hid (by
     obtain ⟨i, rfl, hi⟩ := lZ hB
     have h2 : kF (0 : Int) c.W = true := ky (k := 0) (by have := HG.out.may.w; omega)
     rw [aO, hB, h2] at hk
     cases hk
     have := nE (w := c.W - 1) hi (by have := HG.out.may.w; omega)
     have := HG.out.may.w
     simp
     omega)
   have HB := hid hB
   clear hk hB
   go_enter Tryz.func224, Tryz.ntmps224
   go_wp2_with fail
   refine (EK (gP p c s b 0 _ HG.out) (jZ HK.out)).mono ?_
   rintro e w1 ⟨rfl, hd⟩
   have HD := hid hd
   have HG1 := hid (HG.out.gy hd)
   have cW := HG1.out.cW
   clear hd
   go_wp2_with fail
   go_loopw [21] (fun i wr => ∃ k : Nat, k ≤ c.W ∧ i = .int .i64 k ∧ G wr p c (s.nD f k) ∧ Touch (ak p) w wr) (fun i _ => c.W - (intOf i).toNat)
   case atStart => exact ⟨0, Nat.zero_le _, rfl, HG1.out, Touch.of_below HD.out.new⟩
   case round =>
     obtain ⟨k, hkW, rfl, hGk, hTk⟩ := hrel
     have hW := HG.out.may.w
     have HGk := hid hGk
     have HTk := hid hTk
     have cp := hGk.ptr
     have cW := hGk.cW
     have hf : f + k ≤ 4198424 := by have := HF.out; have := HG.out.may.size; omega
     have hadd : IntKind.i64.wrap ((f : Int) + (k : Int)) = ((f + k : Nat) : Int) := by rw [IntWalk.i64_in _ (by omega)]; exact (Int.natCast_add f k).symm
     clear hGk hTk
     by_cases hlt : k < c.W
     · have HL : Hid (f + k < (s.nD f k).zs.length) := hid (by rw [St.tV, HG.out.len]; have := HF.out; omega)
       go_wp2_with fail
       refine (wZ p.s p.g (s.nD f k).zs (s.nD f k).m 0 (f + k) _ HGk.out.st HL.out).mono ?_
       rintro e w2 ⟨rfl, hS, hT⟩
       have HS := hid hS
       have HT := hid hT
       clear hS hT
       go_wp2_with fail
       go_roundw
       case rel => exact ⟨k + 1, by omega, by go_num, HGk.out.step (s' := s.nD f (k + 1)) HS.out HT.out (St.vY _ _ _) (HG.out.wf.nD f (k + 1)), HTk.out.trans HT.out⟩
       case measure => simp [intOf]; omega
     · obtain rfl : k = c.W := by omega
       go_wp2_with fail
       go_ret
       refine ⟨by unfold MR; rw [HB.out]; rfl, ?_, HTk.out⟩
       rw [show s.xZ c b = s.nD f c.W by unfold St.xZ; rw [HK.out]]
       exact HGk.out
def Sw (tg ts e : TypeId) (w : World) (c : Cf) (en : Ending) (w' : World) : Prop :=
 ∃ p : Pl, en = .returned (.tuple #[.pointer (some ⟨p.a, 0, none⟩), .int .i64 0]) ∧ mO tg ts e w' p c ⟨List.replicate c.size 0, 0⟩ ∧ (∀ k, nU p k → w.heap.size ≤ k) ∧ Below w.heap.size w w'
theorem Rs {c : Cf} : Hr c.N c.W c.R c.K = .agg #[.int .i64 (c.size : Int), .int .i64 ((c.W : Int) - 8), .int .i64 ((c.W : Int) - 7), .int .i64 (aM c.W), .int .i64 (iK c.N c.W), .int .i64 (ja c.N c.W), .int .i64 (PP c.N c.W c.K), .int .i64 (Bp c.N c.W c.K)] := by
 unfold Hr
 have e : BI (c.N : Int) (c.W : Int) (c.R : Int) = (c.size : Int) := by
   unfold BI Cf.size
   simp [Int.natCast_add, Int.natCast_mul]
 rw [e]
set_option maxHeartbeats 400000 in
theorem KN (c : Cf) (w : World) (h : c.May) :
   Calls Tryz.prog 66 #[c.val] w (Sw 103 155 116 w c) := by
 have HM := hid h
 unfold Cf.val
 clear h
 go_enter Tryz.func66, Tryz.ntmps66
 go_wp2_with fail
 refine (SX _ HM.out Rs).mono ?_
 rintro e w1 ⟨rfl, hb⟩
 obtain ⟨hc, hf⟩ := GA hb
 have hz : w.heap.size < w1.heap.size := by have := hb.size; simp at this; omega
 have HB := hid (ay (ah w _) hb)
 clear hb
 go_wp2_with fail
 refine (NU c.size _ (by have := HM.out.size; omega)).mono ?_
 rintro e w2 ⟨s, g, rfl, hS, hs, hg, hb⟩
 have HS := hid hS
 have HB2 := hid hb
 have Hs := hid hs
 have Hg := hid hg
 obtain ⟨hc2, hf2⟩ := GA hb
 have hz2 : w.heap.size < w2.heap.size := by have := hb.size; simp at this; omega
 have c0 : w2.cell? ⟨w.heap.size, 0, none⟩ = some (.int .i64 (c.N : Int)) := by rw [hc2 _ _ (by simp; omega)]; go_simp
 have c1 : w2.cell? ⟨w.heap.size, 1, none⟩ = some (.int .i64 (c.W : Int)) := by rw [hc2 _ _ (by simp; omega)]; go_simp
 have c2 : w2.cell? ⟨w.heap.size, 2, none⟩ = some (.int .i64 (c.R : Int)) := by rw [hc2 _ _ (by simp; omega)]; go_simp
 have c3 : w2.cell? ⟨w.heap.size, 3, none⟩ = some (.int .i64 (c.K : Int)) := by rw [hc2 _ _ (by simp; omega)]; go_simp
 clear hS hs hg hb hc hf hc2 hf2
 go_wp2_with fail
 go_ret2
 exact ⟨⟨w2.heap.size, s, g⟩, rfl, ⟨aU.new w2 _ _, HS.out.alloc _, by simp, by have := HS.out.head.lt; simp; omega, by have := HS.out.body.lt; simp; omega, HM.out, Gy.ry _⟩, by
   have h1 := HB.out.size
   have h2 := HB2.out.size
   have h3 := Hs.out
   have h4 := Hg.out
   simp at h2 h3 h4
   intro k hk
   have hk' : k = w2.heap.size ∨ k = s ∨ k = g := hk
   omega, by
   have h1 := HB.out.size
   have h2 := HB2.out.size
   simp at h2
   exact ((HB.out.alloc HB.out.size _).trans (HB2.out.mono (by simp; omega))).alloc (by omega) _⟩
def ai (c : Cf) (b v : Nat) : Nat := 24 + c.R + b * c.W + v
theorem fK {c : Cf} {b v : Nat} (hb : b < c.N) (hv : v < c.W) : ai c b v < c.size := nE hb hv
theorem gG {c : Cf} {b v : Nat} (hb : b < c.N) (hv : v < c.W) : aO c (b : Int) (v : Int) = some (ai c b v) := by
 unfold aO
 rw [ky hb, ky hv]
 rfl
theorem aH {c : Cf} {a b u v : Nat} (hu : u < c.W) (hv : v < c.W) (h : ai c a u = ai c b v) : a = b ∧ u = v := by
 unfold ai at h
 have h2 : a * c.W + u = b * c.W + v := by omega
 have e1 : (a * c.W + u) / c.W = a := by rw [Nat.add_comm, Nat.add_mul_div_right _ _ (by omega), Nat.div_eq_of_lt hu]; omega
 have e2 : (b * c.W + v) / c.W = b := by rw [Nat.add_comm, Nat.add_mul_div_right _ _ (by omega), Nat.div_eq_of_lt hv]; omega
 have : a = b := by rw [← e1, ← e2, h2]
 subst this
 exact ⟨rfl, by omega⟩
theorem vP {c : Cf} {b v r : Nat} (hr : r < 24) : ¬ r = ai c b v := by unfold ai; omega
theorem dP {c : Cf} {b v r : Nat} (hr : r < 24) : ¬ ai c b v = r := by unfold ai; omega
theorem FT {r : Nat} (h : r < 24) : pU (r : Int) = some r := by
 unfold pU; rw [ky h]; simp
theorem ku (p : Pl) (c : Cf) (s : St) (r : Nat) (x y : Int) (w : World) (hG : G w p c s) (hr : r < 24) (hx : x = (r : Int)) (hy : nth s.zs r = y) :
   Calls Tryz.prog 89 #[.pointer (some ⟨p.a, 0, none⟩), .int .i64 x] w (GP w p c s.got (.int .i64 y)) := by
 subst hx hy
 have h := Oo p c s (r : Int) w hG
 rw [FT hr] at h
 exact h
theorem bg (p : Pl) (c : Cf) (s : St) (r : Nat) (x y : Int) (w : World) (hG : G w p c s) (hr : r < 24) (hx : x = (r : Int)) (h0 : 0 ≤ y) (h1 : y ≤ 4294967295) :
   Calls Tryz.prog 98 #[.pointer (some ⟨p.a, 0, none⟩), .int .i64 x, .int .i64 y] w (GP w p c (s.set r y) (.bool true)) := by
 subst hx
 have h := FX p c s (r : Int) y w hG
 rw [FT hr] at h
 have e : s.DC (some r) y = s.set r y := by unfold St.DC; rw [if_pos (Cv h0 h1)]; rfl
 have e2 : LJ (some r) y = true := by unfold LJ; rw [Cv h0 h1]; rfl
 rw [e, e2] at h
 exact h
theorem gB (p : Pl) (c : Cf) (s : St) (b v : Nat) (x z y : Int) (w : World) (hG : G w p c s) (hb : b < c.N) (hv : v < c.W) (hx : x = (b : Int)) (hz : z = (v : Int)) (hy : nth s.zs (ai c b v) = y) :
   Calls Tryz.prog 100 #[.pointer (some ⟨p.a, 0, none⟩), .int .i64 x, .int .i64 z] w (GP w p c s.got (.int .u32 y)) := by
 subst hx hz hy
 have h := yg p c s (b : Int) (v : Int) w hG
 rw [gG hb hv] at h
 exact h
theorem aS (p : Pl) (c : Cf) (s : St) (b v : Nat) (x z y : Int) (w : World) (hG : G w p c s) (hb : b < c.N) (hv : v < c.W) (hx : x = (b : Int)) (hz : z = (v : Int)) (h0 : 0 ≤ y) (h1 : y ≤ 4294967295) :
   Calls Tryz.prog 114 #[.pointer (some ⟨p.a, 0, none⟩), .int .i64 x, .int .i64 z, .int .u32 y] w (GP w p c (s.set (ai c b v) y) (.bool true)) := by
 subst hx hz
 have h := DV p c s (b : Int) (v : Int) y w hG h0 h1
 rw [gG hb hv] at h
 exact h
theorem pY (p : Pl) (c : Cf) (s : St) (b v : Nat) (x z y : Int) (w : World) (hG : G w p c s) (hb : b < c.N) (hv : v < c.W) (hx : x = (b : Int)) (hz : z = (v : Int)) (hy : nth s.zs (ai c b v) = y) :
   Calls Tryz.prog 142 #[.pointer (some ⟨p.a, 0, none⟩), .int .i64 x, .int .i64 z] w fun e w' => e = .returned (.int .u32 y) ∧ fe w w' := by
 subst hx hz hy
 have h := vw p c s (b : Int) (v : Int) w hG
 rw [gG hb hv] at h
 exact h
theorem vW (p : Pl) (c : Cf) (s : St) (r : Nat) (x y : Int) (w : World) (hG : G w p c s) (hr : r < 24) (hx : x = (r : Int)) (hy : nth s.zs r = y) :
   Calls Tryz.prog 110 #[.pointer (some ⟨p.a, 0, none⟩), .int .i64 x] w fun e w' => e = .returned (.int .i64 y) ∧ w = w' := by
 subst hx hy
 have h := FW p c s (r : Int) w hG
 rw [FT hr] at h
 exact h
theorem kC (p : Pl) (c : Cf) (s : St) (w : World) (hG : G w p c s) :
   Calls Tryz.prog 29 #[.pointer (some ⟨p.a, 0, none⟩)] w fun e w' => e = .returned (.agg #[.int .i64 (c.N : Int), .int .i64 (c.W : Int), .int .i64 (c.R : Int), .int .i64 (c.K : Int)]) ∧ Below w.heap.size w w' := zx p c s w hG
theorem rW (a b c d : Int) (w : World) : (Instr.field 23 (.agg #[.int .i64 a, .int .i64 b, .int .i64 c, .int .i64 d]) 0).run Tryz.prog w = .ok (.int .i64 a) w := by kernel_rfl
theorem kG (a b c d : Int) (w : World) : (Instr.field 23 (.agg #[.int .i64 a, .int .i64 b, .int .i64 c, .int .i64 d]) 1).run Tryz.prog w = .ok (.int .i64 b) w := by kernel_rfl
theorem GK {l l' : List Int} (h : l.length = l'.length) (hn : ∀ i, i < l.length → nth l i = nth l' i) : l = l' := by
 apply List.ext_getElem h
 intro i h1 h2
 have := hn i h1
 unfold nth at this
 simpa [List.getD, h1, h2] using this
def Lx (n : Nat) (f : Nat → Int) : List Int := (List.range n).map f
theorem iM (n : Nat) (f : Nat → Int) : (Lx n f).length = n := by simp [Lx]
theorem dU {n : Nat} (f : Nat → Int) {i : Nat} (h : i < n) : nth (Lx n f) i = f i := by unfold nth Lx; simp [List.getD, h]
theorem pq {l : List Int} {n : Nat} {f : Nat → Int} (h : l.length = n) (hn : ∀ i, i < n → nth l i = f i) : l = Lx n f :=
 GK (by rw [iM, h]) (fun i hi => by rw [dU f (by omega)]; exact hn i (by omega))
theorem bv {zs : List Int} {k : Nat} (hk : k < zs.length) (v : Int) (i : Nat) : nth (zs.set k v) i = if i = k then v else nth zs i := by
 by_cases h : i = k
 · subst h; rw [aZ hk, if_pos rfl]
 · rw [ax (fun e => h e.symm), if_neg h]
def gF (c : Cf) (b : Nat) : Nat := 24 + c.R + b * c.W + 5
theorem lI {c : Cf} {b : Nat} (hm : c.May) (hb : b < c.N) : gF c b < c.size := nE hb (by have := hm.w; omega)
theorem sD {c : Cf} (hm : c.May) {a b : Nat} (h : gF c a = gF c b) : a = b := by
 have hw := hm.w
 unfold gF at h
 have h2 : a * c.W = b * c.W := by omega
 exact Nat.eq_of_mul_eq_mul_right (by omega) h2
theorem nS {c : Cf} {b r : Nat} (hr : r < 24) : ¬ r = gF c b := by unfold gF; omega
theorem dw {c : Cf} {b r : Nat} (hr : r < 24) : ¬ gF c b = r := by unfold gF; omega
def kz : List Nat → Int
 | [] => 0
 | b :: _ => (b : Int) + 1
def lJ : List Nat → Int
 | [] => 0
 | [b] => (b : Int) + 1
 | _ :: b :: t => lJ (b :: t)
theorem qz : ∀ {l : List Nat}, lJ l = 0 → l = []
 | [], _ => rfl
 | [b], h => absurd (show ((b : Int) + 1) = 0 from h) (by omega)
 | _ :: b :: t, h => absurd (qz (l := b :: t) h) (by simp)
theorem kU : ∀ (l : List Nat) (b : Nat), lJ (l ++ [b]) = (b : Int) + 1
 | [], b => rfl
 | [a], b => rfl
 | a :: a' :: t, b => kU (a' :: t) b
theorem iB : ∀ (l : List Nat), l ≠ [] → ∃ b, b ∈ l ∧ lJ l = (b : Int) + 1
 | [], h => absurd rfl h
 | [b], _ => ⟨b, by simp, rfl⟩
 | a :: b :: t, _ => by
   obtain ⟨x, hx, he⟩ := iB (b :: t) (by simp)
   exact ⟨x, by simp at hx ⊢; exact Or.inr hx, he⟩
theorem zw (l : List Nat) (b : Nat) : kz (l ++ [b]) = if l = [] then (b : Int) + 1 else kz l := by
 cases l with
 | nil => rfl
 | cons a t => rfl
def oD (c : Cf) (zs : List Int) : List Nat → Prop
 | [] => True
 | b :: t => nth zs (gF c b) = kz t ∧ oD c zs t
theorem oD.congr {c : Cf} {zs zs' : List Int} : ∀ {l : List Nat}, oD c zs l → (∀ b, b ∈ l → nth zs' (gF c b) = nth zs (gF c b)) → oD c zs' l
 | [], _, _ => trivial
 | b :: t, h, hc => ⟨by rw [hc b (by simp)]; exact h.1, oD.congr h.2 (fun x hx => hc x (by simp [hx]))⟩
theorem oD.snoc {c : Cf} {zs zs' : List Int} {b : Nat} (hb : nth zs' (gF c b) = 0) : ∀ {l : List Nat}, oD c zs l → l.Nodup → (∀ a, a ∈ l → nth zs' (gF c a) = if lJ l = (a : Int) + 1 then (b : Int) + 1 else nth zs (gF c a)) → oD c zs' (l ++ [b])
 | [], _, _, _ => ⟨hb, trivial⟩
 | [a], h, _, hc => ⟨by rw [hc a (by simp), if_pos (show lJ [a] = (a : Int) + 1 from rfl)]; rfl, hb, trivial⟩
 | a :: a' :: t, h, hn, hc => by
   refine ⟨?_, oD.snoc hb (l := a' :: t) h.2 (List.nodup_cons.1 hn).2 (fun x hx => hc x (List.mem_cons_of_mem _ hx))⟩
   have hne : lJ (a :: a' :: t) ≠ (a : Int) + 1 := by
     intro e
     obtain ⟨x, hx, he⟩ := iB (a' :: t) (by simp)
     have : x = a := by have : lJ (a :: a' :: t) = (x : Int) + 1 := he; omega
     subst this
     exact (List.nodup_cons.1 hn).1 hx
   rw [hc a (by simp), if_neg hne]
   exact h.1
structure aV (c : Cf) (zs : List Int) (k : Nat) (l : List Nat) : Prop where
 r0 : nth zs (3 * k) = kz l
 r1 : nth zs (3 * k + 1) = lJ l
 r2 : nth zs (3 * k + 2) = (l.length : Int)
 lt : ∀ b, b ∈ l → b < c.N
 nd : l.Nodup
 ln : oD c zs l
theorem cz : ∀ {N : Nat} {l : List Nat}, l.Nodup → (∀ b, b ∈ l → b < N) → l.length ≤ N
 | 0, [], _, _ => Nat.le_refl _
 | 0, b :: t, _, hl => absurd (hl b (by simp)) (by omega)
 | N + 1, l, hn, hl => by
   by_cases h : N ∈ l
   · have h1 := cz (N := N) (l := l.erase N) (hn.erase N) (fun b hb => by
       have h2 := (hn.mem_erase_iff).1 hb
       have := hl b h2.2
       have := h2.1
       omega)
     rw [List.length_erase_of_mem h] at h1
     omega
   · have h1 := cz (N := N) (l := l) hn (fun b hb => by
       have := hl b hb
       have : b ≠ N := fun e => h (by rw [← e]; exact hb)
       omega)
     omega
theorem aV.congr {c : Cf} {zs zs' : List Int} {k : Nat} {l : List Nat} (h : aV c zs k l) (h0 : nth zs' (3 * k) = nth zs (3 * k)) (h1 : nth zs' (3 * k + 1) = nth zs (3 * k + 1)) (h2 : nth zs' (3 * k + 2) = nth zs (3 * k + 2))
   (hc : ∀ b, b ∈ l → nth zs' (gF c b) = nth zs (gF c b)) : aV c zs' k l :=
 ⟨h0.trans h.r0, h1.trans h.r1, h2.trans h.r2, h.lt, h.nd, h.ln.congr hc⟩
def oH (c : Cf) (k b : Nat) (zs : List Int) (i : Nat) : Int :=
 if i = 3 * k + 2 then nth zs (3 * k + 2) + 1 else if i = 3 * k then (b : Int) + 1 else if i = 3 * k + 1 then (if nth zs (3 * k) = 0 then (b : Int) + 1 else nth zs (3 * k + 1)) else if i = gF c b then nth zs (3 * k) else nth zs i
def addN (c : Cf) (k b : Nat) (zs : List Int) (i : Nat) : Int :=
 if i = 3 * k + 2 then nth zs (3 * k + 2) + 1 else if i = 3 * k then (if nth zs (3 * k + 1) = 0 then (b : Int) + 1 else nth zs (3 * k)) else if i = 3 * k + 1 then (b : Int) + 1 else if i = gF c b then 0
 else if nth zs (3 * k + 1) ≠ 0 ∧ i = gF c (nth zs (3 * k + 1) - 1).toNat then (b : Int) + 1 else nth zs i
def takeN (c : Cf) (k b : Nat) (zs : List Int) (i : Nat) : Int :=
 if i = 3 * k + 2 then nth zs (3 * k + 2) - 1 else if i = 3 * k then nth zs (gF c b) else if i = 3 * k + 1 then (if nth zs (gF c b) = 0 then 0 else nth zs (3 * k + 1)) else if i = gF c b then 0 else nth zs i
def pO (c : Cf) (k b : Nat) (zs : List Int) : List Int := Lx zs.length (oH c k b zs)
def jB (c : Cf) (k b : Nat) (zs : List Int) : List Int := Lx zs.length (addN c k b zs)
def fw (c : Cf) (k b : Nat) (zs : List Int) : List Int := Lx zs.length (takeN c k b zs)
theorem sV (c : Cf) (k b : Nat) (zs : List Int) : (pO c k b zs).length = zs.length := iM _ _
theorem jY (c : Cf) (k b : Nat) (zs : List Int) : (jB c k b zs).length = zs.length := iM _ _
theorem eY (c : Cf) (k b : Nat) (zs : List Int) : (fw c k b zs).length = zs.length := iM _ _
section
variable {c : Cf} {zs : List Int} {k b : Nat} {l : List Nat}
theorem aV.push (h : aV c zs k l) (hm : c.May) (hz : zs.length = c.size) (hk : k < 2) (hb : b < c.N) (hn : b ∉ l) : aV c (pO c k b zs) k (b :: l) := by
 have hs := hm.size
 have g : ∀ i, i < c.size → nth (pO c k b zs) i = oH c k b zs i := fun i hi => dU _ (by omega)
 have gl : ∀ x, x < c.N → nth (pO c k b zs) (gF c x) = if x = b then nth zs (3 * k) else nth zs (gF c x) := fun x hx => by
   rw [g _ (lI hm hx)]
   unfold oH
   rw [if_neg (dw (by omega)), if_neg (dw (by omega)), if_neg (dw (by omega))]
   by_cases e : x = b
   · subst e; rw [if_pos rfl, if_pos rfl]
   · rw [if_neg (fun h => e (sD hm h)), if_neg e]
 refine ⟨?_, ?_, ?_, ?_, List.nodup_cons.2 ⟨hn, h.nd⟩, ?_, ?_⟩
 · rw [g _ (by omega)]; unfold oH; rw [if_neg (by omega), if_pos rfl]; rfl
 · rw [g _ (by omega)]; unfold oH; rw [if_neg (by omega), if_neg (by omega), if_pos rfl, h.r0, h.r1]
   cases l with
   | nil => rfl
   | cons a t => rw [if_neg (show ¬ (kz (a :: t) = 0) from fun e => absurd (show ((a : Int) + 1) = 0 from e) (by omega))]; rfl
 · rw [g _ (by omega)]; unfold oH; rw [if_pos rfl, h.r2]; simp
 · intro x hx
   rcases List.mem_cons.1 hx with rfl | hx
   · exact hb
   · exact h.lt x hx
 · rw [gl b hb, if_pos rfl]; exact h.r0
 · exact h.ln.congr (fun x hx => by rw [gl x (h.lt x hx), if_neg (fun e : x = b => hn (by rw [← e]; exact hx))])
theorem aV.add (h : aV c zs k l) (hm : c.May) (hz : zs.length = c.size) (hk : k < 2) (hb : b < c.N) (hn : b ∉ l) : aV c (jB c k b zs) k (l ++ [b]) := by
 have hs := hm.size
 have g : ∀ i, i < c.size → nth (jB c k b zs) i = addN c k b zs i := fun i hi => dU _ (by omega)
 have gl : ∀ x, x < c.N → x ≠ b → nth (jB c k b zs) (gF c x) = if lJ l = (x : Int) + 1 then (b : Int) + 1 else nth zs (gF c x) := fun x hx e => by
   rw [g _ (lI hm hx)]
   unfold addN
   rw [if_neg (dw (by omega)), if_neg (dw (by omega)), if_neg (dw (by omega)), if_neg (fun h => e (sD hm h)), h.r1]
   by_cases e2 : lJ l = (x : Int) + 1
   · rw [if_pos e2, if_pos ⟨by omega, by rw [e2]; congr 1; omega⟩]
   · rw [if_neg e2, if_neg]
     rintro ⟨h1, h2⟩
     have h3 := sD hm h2
     obtain ⟨y, _, hy⟩ := iB l (fun h => h1 (by rw [h]; rfl))
     rw [hy] at h3
     exact e2 (by rw [hy]; omega)
 have gb : nth (jB c k b zs) (gF c b) = 0 := by
   rw [g _ (lI hm hb)]
   unfold addN
   rw [if_neg (dw (by omega)), if_neg (dw (by omega)), if_neg (dw (by omega)), if_pos rfl]
 refine ⟨?_, ?_, ?_, ?_, ?_, ?_⟩
 · rw [g _ (by omega)]; unfold addN; rw [if_neg (by omega), if_pos rfl, h.r1, h.r0, zw]
   by_cases e : l = []
   · subst e; rfl
   · rw [if_neg (fun h => e (qz h)), if_neg e]
 · rw [g _ (by omega)]; unfold addN; rw [if_neg (by omega), if_neg (by omega), if_pos rfl, kU]
 · rw [g _ (by omega)]; unfold addN; rw [if_pos rfl, h.r2]; simp
 · intro x hx
   rcases List.mem_append.1 hx with hx | hx
   · exact h.lt x hx
   · simp at hx; subst hx; exact hb
 · rw [List.nodup_append]
   exact ⟨h.nd, by simp, fun x hx y hy => by simp at hy; subst hy; exact fun e => hn (by rw [← e]; exact hx)⟩
 · exact oD.snoc gb h.ln h.nd (fun x hx => gl x (h.lt x hx) (fun e => hn (by rw [← e]; exact hx)))
theorem aV.take (h : aV c zs k (b :: l)) (hm : c.May) (hz : zs.length = c.size) (hk : k < 2) : aV c (fw c k b zs) k l ∧ nth (fw c k b zs) (gF c b) = 0 := by
 have hs := hm.size
 have hb := h.lt b (by simp)
 have hn := (List.nodup_cons.1 h.nd).1
 have hl := h.ln.1
 have g : ∀ i, i < c.size → nth (fw c k b zs) i = takeN c k b zs i := fun i hi => dU _ (by omega)
 have gl : ∀ x, x < c.N → nth (fw c k b zs) (gF c x) = if x = b then 0 else nth zs (gF c x) := fun x hx => by
   rw [g _ (lI hm hx)]
   unfold takeN
   rw [if_neg (dw (by omega)), if_neg (dw (by omega)), if_neg (dw (by omega))]
   by_cases e : x = b
   · subst e; rw [if_pos rfl, if_pos rfl]
   · rw [if_neg (fun h => e (sD hm h)), if_neg e]
 refine ⟨⟨?_, ?_, ?_, fun x hx => h.lt x (by simp [hx]), (List.nodup_cons.1 h.nd).2, ?_⟩, by rw [gl b hb, if_pos rfl]⟩
 · rw [g _ (by omega)]; unfold takeN; rw [if_neg (by omega), if_pos rfl]; exact hl
 · rw [g _ (by omega)]; unfold takeN; rw [if_neg (by omega), if_neg (by omega), if_pos rfl, hl, h.r1]
   cases l with
   | nil => rfl
   | cons a t => rw [if_neg (show ¬ (kz (a :: t) = 0) from fun e => absurd (show ((a : Int) + 1) = 0 from e) (by omega))]; rfl
 · rw [g _ (by omega)]; unfold takeN; rw [if_pos rfl, h.r2]; simp
 · exact h.ln.2.congr (fun x hx => by rw [gl x (h.lt x (by simp [hx])), if_neg (fun e : x = b => hn (by rw [← e]; exact hx))])
end
def kX (c : Cf) (f : FuncId) (args : List Value) (zs : List Int) (B : Nat) (zs' : List Int) (v : Value) : Prop :=
 ∃ d, d ≤ B ∧ ∀ (p : Pl) (m : Nat) (w : World), G w p c ⟨zs, m⟩ → Calls Tryz.prog f (List.toArray (.pointer (some ⟨p.a, 0, none⟩) :: args)) w (GP w p c ⟨zs', m + d⟩ v)
structure Wz (c : Cf) (zs : List Int) : Prop where
 may : c.May
 len : zs.length = c.size
 wf : Gy zs
theorem mO.wz {tg ts e : TypeId} {w : World} {p : Pl} {c : Cf} {s : St} (h : mO tg ts e w p c s) : Wz c s.zs := ⟨h.may, h.len, h.wf⟩
theorem mO.eO {tg ts e : TypeId} {w : World} {p : Pl} {c : Cf} {s : St} (h : mO tg ts e w p c s) {i : Nat} (hi : nU p i) : i < w.heap.size := by
 rcases hi with rfl | rfl | rfl
 · exact h.head.lt
 · exact h.st.head.lt
 · exact h.st.body.lt
def Looks (c : Cf) (f : FuncId) (args : List Value) (zs : List Int) (Q : World → Ending → World → Prop) : Prop :=
 ∀ (p : Pl) (m : Nat) (w : World), G w p c ⟨zs, m⟩ → Calls Tryz.prog f (List.toArray (.pointer (some ⟨p.a, 0, none⟩) :: args)) w (Q w)
def dW (x : Int) : Prop := dH (uK x) (uC x) (uN x) (uS x) (uD x) (uG x) (uO x) ∧ x / 128 % 2 = 0 ∧ 0 ≤ x
def df (x : Int) : Prop := uK x = 1 ∨ uK x = 2
theorem dW.pack {x : Int} (h : dW x) : dQ (uK x) (uC x) (uN x) (uS x) (uD x) (uG x) (uO x) = x := by
 rw [Dp, h.2.1]; omega
theorem dW.bd {x : Int} (h : dW x) : 0 ≤ x ∧ x ≤ 268435455 := by
 obtain ⟨⟨_, ⟨o0, o1⟩, _⟩, h7, h0⟩ := h
 unfold uO at o1
 omega
theorem MC (x : Int) : uG x = 0 ∨ uG x = 1 := by unfold uG; omega
theorem dW.Pn {x : Int} (h : dW x) (hk : df x) (hg : uG x = 0) :
   dW (x + 64) ∧ dQ (uK x) (uC x) (uN x) (uS x) (uD x) 1 (uO x) = x + 64 ∧ dH (uK x) (uC x) (uN x) (uS x) (uD x) 1 (uO x) ∧ uK (x + 64) = uK x ∧ uC (x + 64) = uC x ∧ uN (x + 64) = uN x ∧ uS (x + 64) = uS x ∧ uD (x + 64) = uD x ∧ uG (x + 64) = 1 ∧ uO (x + 64) = uO x := by
 have e0 : uK (x + 64) = uK x := by unfold uK; omega
 have e1 : uC (x + 64) = uC x := by unfold uC; omega
 have e2 : uN (x + 64) = uN x := by unfold uN; omega
 have e3 : uS (x + 64) = uS x := by unfold uS; omega
 have e4 : uD (x + 64) = uD x := by unfold uD; omega
 have e5 : uG (x + 64) = 1 := by unfold uG at hg ⊢; omega
 have h7 := h.2.1
 have e6 : uO (x + 64) = uO x := by unfold uO; unfold uG at hg; omega
 have r := h.1
 have hr : dH (uK x) (uC x) (uN x) (uS x) (uD x) 1 (uO x) := by
   unfold df at hk
   exact ⟨r.1, r.2.1, r.2.2.1, r.2.2.2.1, r.2.2.2.2.1, r.2.2.2.2.2.1, r.2.2.2.2.2.2.1, by omega, fun h => by omega⟩
 refine ⟨⟨by rw [e0, e1, e2, e3, e4, e5, e6]; exact hr, by unfold uG at hg; omega, by have := h.2.2; omega⟩, ?_, hr, e0, e1, e2, e3, e4, e5, e6⟩
 have hp := h.pack
 rw [hg] at hp
 unfold dQ at hp ⊢
 omega
theorem dW.Pm {x : Int} (h : dW x) (hk : df x) (hg : uG x = 1) :
   dW (x - 64) ∧ dQ (uK x) (uC x) (uN x) (uS x) (uD x) 0 (uO x) = x - 64 ∧ dH (uK x) (uC x) (uN x) (uS x) (uD x) 0 (uO x) ∧ uK (x - 64) = uK x ∧ uC (x - 64) = uC x ∧ uN (x - 64) = uN x ∧ uS (x - 64) = uS x ∧ uD (x - 64) = uD x ∧ uG (x - 64) = 0 ∧ uO (x - 64) = uO x := by
 have e0 : uK (x - 64) = uK x := by unfold uK; omega
 have e1 : uC (x - 64) = uC x := by unfold uC; omega
 have e2 : uN (x - 64) = uN x := by unfold uN; omega
 have e3 : uS (x - 64) = uS x := by unfold uS; omega
 have e4 : uD (x - 64) = uD x := by unfold uD; omega
 have e5 : uG (x - 64) = 0 := by unfold uG at hg ⊢; omega
 have h7 := h.2.1
 have e6 : uO (x - 64) = uO x := by unfold uO; unfold uG at hg; omega
 have r := h.1
 have hr : dH (uK x) (uC x) (uN x) (uS x) (uD x) 0 (uO x) := by
   unfold df at hk
   exact ⟨r.1, r.2.1, r.2.2.1, r.2.2.2.1, r.2.2.2.2.1, r.2.2.2.2.2.1, r.2.2.2.2.2.2.1, by omega, fun h => by omega⟩
 refine ⟨⟨by rw [e0, e1, e2, e3, e4, e5, e6]; exact hr, by unfold uG at hg; omega, by have := h.2.2; unfold uG at hg; omega⟩, ?_, hr, e0, e1, e2, e3, e4, e5, e6⟩
 have hp := h.pack
 rw [hg] at hp
 unfold dQ at hp ⊢
 omega
def yo : List Nat → Int → Int
 | [], z => z
 | b :: _, _ => (b : Int) + 1
def CW : List Nat → Int → Int
 | [], a => a
 | b :: t, _ => CW t ((b : Int) + 1)
theorem KI (l : List Nat) : yo l 0 = kz l := by cases l <;> rfl
theorem IZ (l : List Nat) (b : Nat) (a : Int) : CW (l ++ [b]) a = (b : Int) + 1 := by
 induction l generalizing a with
 | nil => rfl
 | cons x t ih => exact ih _
theorem ut (l : List Nat) : CW l 0 = lJ l := by
 rcases List.eq_nil_or_concat l with rfl | ⟨t, x, rfl⟩
 · rfl
 · rw [List.concat_eq_append, IZ, kU]
theorem Cz (l1 l2 : List Nat) (z : Int) : yo (l1 ++ l2) z = yo l1 (yo l2 z) := by cases l1 <;> rfl
theorem uZ (l1 l2 : List Nat) (a : Int) : CW (l1 ++ l2) a = CW l2 (CW l1 a) := by
 induction l1 generalizing a with
 | nil => rfl
 | cons x t ih => exact ih _
def Seg (c : Cf) (zs : List Int) : Int → List Nat → Int → Prop
 | _, [], _ => True
 | a, b :: t, z => nth zs (ai c b 6) = a ∧ nth zs (ai c b 7) = yo t z ∧ Seg c zs ((b : Int) + 1) t z
theorem Seg.congr {c : Cf} {zs zs' : List Int} {l : List Nat} {a z : Int} (h : Seg c zs a l z) (hc : ∀ b, b ∈ l → nth zs' (ai c b 6) = nth zs (ai c b 6) ∧ nth zs' (ai c b 7) = nth zs (ai c b 7)) : Seg c zs' a l z := by
 induction l generalizing a with
 | nil => trivial
 | cons b t ih => exact ⟨by rw [(hc b (by simp)).1]; exact h.1, by rw [(hc b (by simp)).2]; exact h.2.1, ih h.2.2 (fun x hx => hc x (by simp [hx]))⟩
theorem iI {c : Cf} {zs : List Int} {l1 l2 : List Nat} {a z : Int} : Seg c zs a (l1 ++ l2) z ↔ Seg c zs a l1 (yo l2 z) ∧ Seg c zs (CW l1 a) l2 z := by
 induction l1 generalizing a with
 | nil => exact ⟨fun h => ⟨trivial, h⟩, fun h => h.2⟩
 | cons b t ih =>
   show (nth zs (ai c b 6) = a ∧ nth zs (ai c b 7) = yo (t ++ l2) z ∧ Seg c zs ((b : Int) + 1) (t ++ l2) z) ↔ (nth zs (ai c b 6) = a ∧ nth zs (ai c b 7) = yo t (yo l2 z) ∧ Seg c zs ((b : Int) + 1) t (yo l2 z)) ∧ Seg c zs (CW t ((b : Int) + 1)) l2 z
   rw [ih, Cz]
   exact ⟨fun h => ⟨⟨h.1, h.2.1, h.2.2.1⟩, h.2.2.2⟩, fun h => ⟨h.1.1, h.1.2.1, h.1.2.2, h.2⟩⟩
structure RingAt (c : Cf) (zs : List Int) (l : List Nat) : Prop where
 r7 : nth zs 7 = kz l
 r8 : nth zs 8 = lJ l
 r9 : nth zs 9 = (l.length : Int)
 lt : ∀ b, b ∈ l → b < c.N
 nd : l.Nodup
 seg : Seg c zs 0 l 0
 tok : ∀ b, b < c.N → dW (nth zs (ai c b 0))
 hd : ∀ b, b ∈ l → df (nth zs (ai c b 0))
 mrk : ∀ b, b < c.N → (uG (nth zs (ai c b 0)) = 1 ↔ b ∈ l)
theorem RingAt.Ro {c : Cf} {zs : List Int} {l : List Nat} (h : RingAt c zs l) {b : Nat} (hb : b < c.N) (hn : b ∉ l) : uG (nth zs (ai c b 0)) = 0 := by
 rcases MC (nth zs (ai c b 0)) with h0 | h1
 · exact h0
 · exact absurd ((h.mrk b hb).1 h1) hn
theorem RingAt.split {c : Cf} {zs : List Int} {l1 l2 : List Nat} {b : Nat} (h : RingAt c zs (l1 ++ b :: l2)) : nth zs (ai c b 6) = lJ l1 ∧ nth zs (ai c b 7) = kz l2 := by
 have := (iI.1 h.seg).2
 exact ⟨by rw [this.1, ut], by rw [this.2.1, KI]⟩
theorem DZ {l : List Nat} {b : Nat} (h : b ∈ l) : ∃ l1 l2, l = l1 ++ b :: l2 := List.append_of_mem h
def fE (c : Cf) (b : Nat) (zs : List Int) (i : Nat) : Int :=
 if i = 7 then (if nth zs 8 = 0 then (b : Int) + 1 else nth zs 7) else if i = 8 then (b : Int) + 1 else if i = 9 then nth zs 9 + 1
 else if i = ai c b 0 then nth zs (ai c b 0) + 64 else if i = ai c b 6 then nth zs 8 else if i = ai c b 7 then 0
 else if nth zs 8 ≠ 0 ∧ i = ai c (nth zs 8 - 1).toNat 7 then (b : Int) + 1 else nth zs i
def fF (c : Cf) (b : Nat) (zs : List Int) (i : Nat) : Int :=
 if i = 7 then (if nth zs (ai c b 6) = 0 then nth zs (ai c b 7) else nth zs 7) else if i = 8 then (if nth zs (ai c b 7) = 0 then nth zs (ai c b 6) else nth zs 8) else if i = 9 then nth zs 9 - 1
 else if i = ai c b 0 then nth zs (ai c b 0) - 64 else if i = ai c b 6 then 0 else if i = ai c b 7 then 0
 else if nth zs (ai c b 6) ≠ 0 ∧ i = ai c (nth zs (ai c b 6) - 1).toNat 7 then nth zs (ai c b 7)
 else if nth zs (ai c b 7) ≠ 0 ∧ i = ai c (nth zs (ai c b 7) - 1).toNat 6 then nth zs (ai c b 6) else nth zs i
def bE (c : Cf) (b : Nat) (zs : List Int) : List Int := Lx zs.length (fE c b zs)
def bH (c : Cf) (b : Nat) (zs : List Int) : List Int := Lx zs.length (fF c b zs)
theorem oI (c : Cf) (b : Nat) (zs : List Int) : (bE c b zs).length = zs.length := iM _ _
theorem oJ (c : Cf) (b : Nat) (zs : List Int) : (bH c b zs).length = zs.length := iM _ _
theorem kZ {c : Cf} (hm : c.May) {a b u v : Nat} (hu : u < 16) (hv : v < 16) : (ai c a u = ai c b v) ↔ (a = b ∧ u = v) := by
 have := hm.w
 exact ⟨fun h => aH (by omega) (by omega) h, fun h => by rw [h.1, h.2]⟩
theorem iY {c : Cf} (hm : c.May) {b u : Nat} (hb : b < c.N) (hu : u < 16) : ai c b u < c.size := by
 have := hm.w
 exact fK hb (by omega)
section
variable {c : Cf} {zs : List Int} {b : Nat} {l : List Nat}
theorem RingAt.add (h : RingAt c zs l) (hm : c.May) (hz : zs.length = c.size) (hb : b < c.N) (hn : b ∉ l) (hk : df (nth zs (ai c b 0))) : RingAt c (bE c b zs) (l ++ [b]) := by
 have hs := hm.size
 have g : ∀ i, i < c.size → nth (bE c b zs) i = fE c b zs i := fun i hi => dU _ (by omega)
 have hR : ∀ (x u r : Nat), r < 24 → ¬ ai c x u = r := fun x u r hr => dP hr
 have hR' : ∀ (x u r : Nat), r < 24 → ¬ r = ai c x u := fun x u r hr => vP hr
 have g0 : ∀ x, x < c.N → nth (bE c b zs) (ai c x 0) = if x = b then nth zs (ai c b 0) + 64 else nth zs (ai c x 0) := fun x hx => by
   rw [g _ (iY hm hx (by omega))]
   unfold fE
   simp [hR, kZ hm]
 have g6 : ∀ x, x < c.N → nth (bE c b zs) (ai c x 6) = if x = b then nth zs 8 else nth zs (ai c x 6) := fun x hx => by
   rw [g _ (iY hm hx (by omega))]
   unfold fE
   simp [hR, kZ hm]
 have g7 : ∀ x, x < c.N → nth (bE c b zs) (ai c x 7) = if x = b then 0 else if nth zs 8 ≠ 0 ∧ x = (nth zs 8 - 1).toNat then (b : Int) + 1 else nth zs (ai c x 7) := fun x hx => by
   rw [g _ (iY hm hx (by omega))]
   unfold fE
   simp [hR, kZ hm]
 have ht := h.tok b hb
 have hg0 := h.Ro hb hn
 obtain ⟨t1, _, _, k1, _, _, _, _, g1, _⟩ := ht.Pn hk hg0
 refine ⟨?_, ?_, ?_, ?_, ?_, ?_, ?_, ?_, ?_⟩
 · rw [g _ (by omega)]; unfold fE; rw [if_pos rfl, h.r8, h.r7, zw]
   by_cases e : l = []
   · subst e; rfl
   · rw [if_neg (fun h => e (qz h)), if_neg e]
 · rw [g _ (by omega)]; unfold fE; rw [if_neg (by omega), if_pos rfl, kU]
 · rw [g _ (by omega)]; unfold fE; rw [if_neg (by omega), if_neg (by omega), if_pos rfl, h.r9]; simp
 · intro x hx
   rcases List.mem_append.1 hx with hx | hx
   · exact h.lt x hx
   · simp at hx; subst hx; exact hb
 · rw [List.nodup_append]
   exact ⟨h.nd, by simp, fun x hx y hy => by simp at hy; subst hy; exact fun e => hn (by rw [← e]; exact hx)⟩
 · rw [iI]
   refine ⟨?_, ⟨by rw [g6 b hb, if_pos rfl, h.r8, ut], by rw [g7 b hb, if_pos rfl]; rfl, trivial⟩⟩
   show Seg c _ 0 l ((b : Int) + 1)
   rcases List.eq_nil_or_concat l with rfl | ⟨t, x, rfl⟩
   · trivial
   · rw [List.concat_eq_append] at h hn ⊢
     have hx := h.lt x (by simp)
     have hxb : x ≠ b := fun e => hn (by simp [e])
     have h8 : nth zs 8 = (x : Int) + 1 := by rw [h.r8, kU]
     have hnd := List.nodup_append.1 h.nd
     obtain ⟨s1, s2, s3, _⟩ := iI.1 h.seg
     rw [iI]
     refine ⟨s1.congr (fun y hy => ?_), ?_, ?_, trivial⟩
     · have hyN := h.lt y (by simp [hy])
       have hyb : y ≠ b := fun e => hn (by simp [← e, hy])
       have hyx : y ≠ x := fun e => hnd.2.2 y hy x (by simp) e
       rw [g6 y hyN, if_neg hyb, g7 y hyN, if_neg hyb, h8, if_neg (by omega)]
       exact ⟨rfl, rfl⟩
     · rw [g6 x hx, if_neg hxb]; exact s2
     · rw [g7 x hx, if_neg hxb, h8, if_pos ⟨by omega, by omega⟩]; rfl
 · intro x hx
   rw [g0 x hx]
   by_cases e : x = b
   · rw [if_pos e]; exact t1
   · rw [if_neg e]; exact h.tok x hx
 · intro x hx
   rcases List.mem_append.1 hx with hx | hx
   · have : x ≠ b := fun e => hn (by rw [← e]; exact hx)
     rw [g0 x (h.lt x hx), if_neg this]; exact h.hd x hx
   · simp at hx; subst hx
     rw [g0 x hb, if_pos rfl]; unfold df at hk ⊢; rw [k1]; exact hk
 · intro x hx
   rw [g0 x hx]
   by_cases e : x = b
   · rw [if_pos e, g1]; simp [e]
   · rw [if_neg e, h.mrk x hx]; simp [e]
theorem RingAt.cut {l1 l2 : List Nat} (h : RingAt c zs (l1 ++ b :: l2)) (hm : c.May) (hz : zs.length = c.size) : RingAt c (bH c b zs) (l1 ++ l2) := by
 have hs := hm.size
 have hb := h.lt b (by simp)
 have g : ∀ i, i < c.size → nth (bH c b zs) i = fF c b zs i := fun i hi => dU _ (by omega)
 have hR : ∀ (x u r : Nat), r < 24 → ¬ ai c x u = r := fun x u r hr => dP hr
 obtain ⟨hp, hq⟩ := h.split
 have g0 : ∀ x, x < c.N → nth (bH c b zs) (ai c x 0) = if x = b then nth zs (ai c b 0) - 64 else nth zs (ai c x 0) := fun x hx => by
   rw [g _ (iY hm hx (by omega))]
   unfold fF
   simp [hR, kZ hm]
 have g6 : ∀ x, x < c.N → nth (bH c b zs) (ai c x 6) = if x = b then 0 else if kz l2 ≠ 0 ∧ x = (kz l2 - 1).toNat then lJ l1 else nth zs (ai c x 6) := fun x hx => by
   rw [g _ (iY hm hx (by omega))]
   unfold fF
   rw [hp, hq]
   simp [hR, kZ hm]
 have g7 : ∀ x, x < c.N → nth (bH c b zs) (ai c x 7) = if x = b then 0 else if lJ l1 ≠ 0 ∧ x = (lJ l1 - 1).toNat then kz l2 else nth zs (ai c x 7) := fun x hx => by
   rw [g _ (iY hm hx (by omega))]
   unfold fF
   rw [hp, hq]
   simp [hR, kZ hm]
 have ht := h.tok b hb
 have hg1 := (h.mrk b hb).2 (by simp)
 obtain ⟨t1, _, _, k1, _, _, _, _, g1, _⟩ := ht.Pm (h.hd b (by simp)) hg1
 have hnd := h.nd
 rw [List.nodup_append] at hnd
 obtain ⟨n1, n2, n3⟩ := hnd
 obtain ⟨n4, n5⟩ := List.nodup_cons.1 n2
 have hb1 : b ∉ l1 := fun hx => n3 b hx b (by simp) rfl
 have n6 : ∀ x, x ∈ l1 → x ∉ l2 := fun x hx hy => n3 x hx x (by simp [hy]) rfl
 have hmem : ∀ x, x ∈ l1 ++ l2 → x ∈ l1 ++ b :: l2 := fun x hx => by
   rcases List.mem_append.1 hx with hx | hx
   · simp [hx]
   · simp [hx]
 have hne : ∀ x, x ∈ l1 ++ l2 → x ≠ b := fun x hx e => by
   rcases List.mem_append.1 hx with hx | hx
   · exact hb1 (by rw [← e]; exact hx)
   · exact n4 (by rw [← e]; exact hx)
 obtain ⟨s1, s2⟩ := iI.1 h.seg
 obtain ⟨s3, s4, s5⟩ := s2
 have hf2 : ∀ x, kz l2 ≠ 0 ∧ x = (kz l2 - 1).toNat → x ∈ l2 := by
   rintro x ⟨h1, h2⟩
   cases l2 with
   | nil => exact absurd rfl h1
   | cons y t => have : kz (y :: t) = (y : Int) + 1 := rfl
                 rw [this] at h2
                 have : x = y := by omega
                 rw [this]; simp
 have hl1 : ∀ x, lJ l1 ≠ 0 ∧ x = (lJ l1 - 1).toNat → x ∈ l1 := by
   rintro x ⟨h1, h2⟩
   obtain ⟨y, hy, he⟩ := iB l1 (fun e => h1 (by rw [e]; rfl))
   rw [he] at h2
   have : x = y := by omega
   rw [this]; exact hy
 refine ⟨?_, ?_, ?_, ?_, ?_, ?_, ?_, ?_, ?_⟩
 · rw [g _ (by omega)]; unfold fF; rw [if_pos rfl, hp, hq, h.r7]
   cases l1 with
   | nil => rfl
   | cons x t => rw [if_neg (fun e => absurd (qz e) (by simp))]; rfl
 · rw [g _ (by omega)]; unfold fF; rw [if_neg (by omega), if_pos rfl, hp, hq, h.r8, ← ut, ← ut, ← ut, uZ, uZ]
   cases l2 with
   | nil => rfl
   | cons y t => rw [if_neg (show ¬ (kz (y :: t) = 0) from fun e => absurd (show ((y : Int) + 1) = 0 from e) (by omega))]; rfl
 · rw [g _ (by omega)]; unfold fF; rw [if_neg (by omega), if_neg (by omega), if_pos rfl, h.r9]; simp; omega
 · intro x hx; exact h.lt x (hmem x hx)
 · rw [List.nodup_append]
   exact ⟨n1, n5, fun x hx y hy e => n6 x hx (by rw [e]; exact hy)⟩
 · rw [iI]
   constructor
   · rw [KI]
     rcases List.eq_nil_or_concat l1 with rfl | ⟨t, x, rfl⟩
     · trivial
     · rw [List.concat_eq_append] at *
       have hx := h.lt x (by simp)
       have hxb := hne x (by simp)
       have hl : lJ (t ++ [x]) = (x : Int) + 1 := kU t x
       have hnt := List.nodup_append.1 n1
       rw [iI] at s1 ⊢
       obtain ⟨u1, u2, u3, _⟩ := s1
       refine ⟨u1.congr (fun y hy => ?_), ?_, ?_, trivial⟩
       · have hyN := h.lt y (by simp [hy])
         have hyb := hne y (by simp [hy])
         have hyx : y ≠ x := fun e => hnt.2.2 y hy x (by simp) e
         rw [g6 y hyN, if_neg hyb, if_neg (fun e => n6 y (by simp [hy]) (hf2 y e)), g7 y hyN, if_neg hyb, hl, if_neg (by omega)]
         exact ⟨rfl, rfl⟩
       · rw [g6 x hx, if_neg hxb, if_neg (fun e => n6 x (by simp) (hf2 x e))]; exact u2
       · rw [g7 x hx, if_neg hxb, hl, if_pos ⟨by omega, by omega⟩]; rfl
   · cases l2 with
     | nil => trivial
     | cons y t =>
       have hy := h.lt y (by simp)
       have hyb := hne y (by simp)
       have hy1 : y ∉ l1 := fun e => n6 y e (by simp)
       obtain ⟨v1, v2, v3⟩ := s5
       have hnt := List.nodup_cons.1 n5
       have hf : kz (y :: t) = (y : Int) + 1 := rfl
       refine ⟨?_, ?_, v3.congr (fun x hx => ?_)⟩
       · rw [g6 y hy, if_neg hyb, hf, if_pos ⟨by omega, by omega⟩, ut]
       · rw [g7 y hy, if_neg hyb, if_neg (fun e => hy1 (hl1 y e))]; exact v2
       · have hxN := h.lt x (by simp [hx])
         have hxb := hne x (by simp [hx])
         have hxy : x ≠ y := fun e => hnt.1 (by rw [← e]; exact hx)
         rw [g6 x hxN, if_neg hxb, hf, if_neg (by omega), g7 x hxN, if_neg hxb, if_neg (fun e => n6 x (hl1 x e) (by simp [hx]))]
         exact ⟨rfl, rfl⟩
 · intro x hx
   rw [g0 x hx]
   by_cases e : x = b
   · rw [if_pos e]; exact t1
   · rw [if_neg e]; exact h.tok x hx
 · intro x hx
   rw [g0 x (h.lt x (hmem x hx)), if_neg (hne x hx)]; exact h.hd x (hmem x hx)
 · intro x hx
   rw [g0 x hx]
   by_cases e : x = b
   · rw [if_pos e, g1, e]
     exact ⟨fun h => absurd h (by decide), fun h => absurd rfl (hne b h)⟩
   · rw [if_neg e, h.mrk x hx]; simp [e]
theorem vo (hm : c.May) (hz : zs.length = c.size) {x : Nat} (hx : x < c.N) : nth (bE c b zs) (ai c x 0) = if x = b then nth zs (ai c b 0) + 64 else nth zs (ai c x 0) := by
 have hR : ∀ (x u r : Nat), r < 24 → ¬ ai c x u = r := fun x u r hr => dP hr
 rw [show nth (bE c b zs) (ai c x 0) = fE c b zs (ai c x 0) from dU _ (by rw [hz]; exact iY hm hx (by omega))]
 unfold fE
 simp [hR, kZ hm]
theorem vv (hm : c.May) (hz : zs.length = c.size) {x : Nat} (hx : x < c.N) : nth (bH c b zs) (ai c x 0) = if x = b then nth zs (ai c b 0) - 64 else nth zs (ai c x 0) := by
 have hR : ∀ (x u r : Nat), r < 24 → ¬ ai c x u = r := fun x u r hr => dP hr
 rw [show nth (bH c b zs) (ai c x 0) = fF c b zs (ai c x 0) from dU _ (by rw [hz]; exact iY hm hx (by omega))]
 unfold fF
 simp [hR, kZ hm]
def Af (c : Cf) (l : List Nat) (b i : Nat) : Prop := i ≠ 7 ∧ i ≠ 8 ∧ i ≠ 9 ∧ i ≠ ai c b 0 ∧ ∀ x, (x = b ∨ x ∈ l) → i ≠ ai c x 6 ∧ i ≠ ai c x 7
theorem pV (h : RingAt c zs l) (hz : zs.length = c.size) {i : Nat} (hi : Af c l b i) : nth (bE c b zs) i = nth zs i := by
 obtain ⟨h7, h8, h9, h0, hx⟩ := hi
 by_cases hlt : i < zs.length
 · rw [show nth (bE c b zs) i = fE c b zs i from dU _ hlt]
   unfold fE
   rw [if_neg h7, if_neg h8, if_neg h9, if_neg h0, if_neg (hx b (Or.inl rfl)).1, if_neg (hx b (Or.inl rfl)).2, if_neg]
   rintro ⟨e1, e2⟩
   rw [h.r8] at e1 e2
   obtain ⟨y, hy, he⟩ := iB l (fun e => e1 (by rw [e]; rfl))
   rw [he] at e2
   exact (hx y (Or.inr hy)).2 (by rw [e2]; congr 1; omega)
 · rw [dL (by rw [oI]; omega), dL (by omega)]
theorem pW {l1 l2 : List Nat} (h : RingAt c zs (l1 ++ b :: l2)) (hz : zs.length = c.size) {i : Nat} (hi : Af c (l1 ++ l2) b i) : nth (bH c b zs) i = nth zs i := by
 obtain ⟨h7, h8, h9, h0, hx⟩ := hi
 obtain ⟨hp, hq⟩ := h.split
 by_cases hlt : i < zs.length
 · rw [show nth (bH c b zs) i = fF c b zs i from dU _ hlt]
   unfold fF
   rw [if_neg h7, if_neg h8, if_neg h9, if_neg h0, if_neg (hx b (Or.inl rfl)).1, if_neg (hx b (Or.inl rfl)).2, hp, hq, if_neg, if_neg]
   · rintro ⟨e1, e2⟩
     cases l2 with
     | nil => exact e1 rfl
     | cons y t =>
       have : kz (y :: t) = (y : Int) + 1 := rfl
       rw [this] at e2
       exact (hx y (Or.inr (by simp))).1 (by rw [e2]; congr 1; omega)
   · rintro ⟨e1, e2⟩
     obtain ⟨y, hy, he⟩ := iB l1 (fun e => e1 (by rw [e]; rfl))
     rw [he] at e2
     exact (hx y (Or.inr (by simp [hy]))).2 (by rw [e2]; congr 1; omega)
 · rw [dL (by rw [oJ]; omega), dL (by omega)]
end
structure dm (c : Cf) (zs : List Int) (l : List Nat) : Prop where
 ch : aV c zs 0 l
 fr : ∀ b, b ∈ l → nth zs (ai c b 0) = 0
def jE (c : Cf) (b i : Nat) : Prop := ai c b 0 ≤ i ∧ i < ai c b 0 + c.W
theorem qo {c : Cf} {b v : Nat} (hv : v < c.W) : jE c b (ai c b v) := by unfold jE ai; omega
theorem KV {c : Cf} {b i : Nat} (h : jE c b i) : ∃ v, v < c.W ∧ i = ai c b v := ⟨i - ai c b 0, by unfold jE at h; omega, by unfold jE at h; unfold ai at *; omega⟩
theorem qp {c : Cf} {b r : Nat} (hr : r < 24) : ¬ jE c b r := by unfold jE ai; omega
theorem je {c : Cf} {a b v : Nat} (h : a ≠ b) (hv : v < c.W) : ¬ jE c b (ai c a v) := by
 intro hb
 obtain ⟨u, hu, e⟩ := KV hb
 exact h (aH hv hu e).1
theorem gW (c : Cf) (b : Nat) : gF c b = ai c b 5 := rfl
instance (c : Cf) (b i : Nat) : Decidable (jE c b i) := by unfold jE; infer_instance
def bT (c : Cf) (b : Nat) (zs zs' : List Int) : Prop := zs'.length = zs.length ∧ ∀ i, ¬ jE c b i → nth zs' i = nth zs i
theorem bT.refl (c : Cf) (b : Nat) (zs : List Int) : bT c b zs zs := ⟨rfl, fun _ _ => rfl⟩
theorem bT.trans {c : Cf} {b : Nat} {x y z : List Int} (h : bT c b x y) (k : bT c b y z) : bT c b x z := ⟨k.1.trans h.1, fun i hi => (k.2 i hi).trans (h.2 i hi)⟩
theorem bT.set {c : Cf} {b v : Nat} {zs : List Int} (hv : v < c.W) (x : Int) : bT c b zs (zs.set (ai c b v) x) :=
 ⟨by simp, fun i hi => ax (fun e => hi (by rw [← e]; exact qo hv)) x⟩
theorem aV.only {c : Cf} {zs zs' : List Int} {k b : Nat} {l : List Nat} (h : aV c zs k l) (hm : c.May) (hk : k < 2) (hb : b ∉ l) (ho : bT c b zs zs') : aV c zs' k l := by
 have hw := hm.w
 refine h.congr (ho.2 _ (qp (by omega))) (ho.2 _ (qp (by omega))) (ho.2 _ (qp (by omega))) (fun x hx => ho.2 _ ?_)
 rw [gW]
 exact je (fun e => hb (by rw [← e]; exact hx)) (by omega)
theorem dm.only {c : Cf} {zs zs' : List Int} {b : Nat} {l : List Nat} (h : dm c zs l) (hm : c.May) (hb : b ∉ l) (ho : bT c b zs zs') : dm c zs' l := by
 have hw := hm.w
 refine ⟨h.ch.only hm (by omega) hb ho, fun x hx => ?_⟩
 rw [ho.2 _ (je (fun e => hb (by rw [← e]; exact hx)) (by omega))]
 exact h.fr x hx
def zP (c : Cf) (b : Nat) (zs : List Int) (i : Nat) : Int := if jE c b i then 0 else takeN c 0 b zs i
def dB (c : Cf) (b : Nat) (zs : List Int) : List Int := Lx zs.length (zP c b zs)
def bf (c : Cf) (b : Nat) (zs : List Int) : List Int := pO c 0 b (zs.set (ai c b 0) 0)
theorem fD (c : Cf) (b : Nat) (zs : List Int) : (dB c b zs).length = zs.length := iM _ _
theorem uE (c : Cf) (b : Nat) (zs : List Int) : (bf c b zs).length = zs.length := by unfold bf; rw [sV]; simp
def oU (c : Cf) (zs : List Int) : Prop := dm c zs (List.range c.N) ∧ ∀ i, ¬ i < 3 → (∀ b, b < c.N → i ≠ ai c b 5) → nth zs i = 0
section
variable {c : Cf} {zs : List Int} {b : Nat} {l : List Nat}
theorem nX (hz : zs.length = c.size) {i : Nat} (hi : i < c.size) : nth (dB c b zs) i = if jE c b i then 0 else nth (fw c 0 b zs) i := by
 rw [show nth (dB c b zs) i = zP c b zs i from dU _ (by omega), show nth (fw c 0 b zs) i = takeN c 0 b zs i from dU _ (by omega)]
 rfl
theorem mI (hz : zs.length = c.size) : bT c b (fw c 0 b zs) (dB c b zs) := by
 refine ⟨by rw [fD, eY], fun i hi => ?_⟩
 by_cases h : i < c.size
 · rw [nX hz h, if_neg hi]
 · rw [dL (by rw [fD]; omega), dL (by rw [eY]; omega)]
theorem dm.take (h : dm c zs (b :: l)) (hm : c.May) (hz : zs.length = c.size) : dm c (dB c b zs) l ∧ ∀ v, v < c.W → nth (dB c b zs) (ai c b v) = 0 := by
 have hb := h.ch.lt b (by simp)
 have hn := (List.nodup_cons.1 h.ch.nd).1
 have hw := hm.w
 obtain ⟨h1, _⟩ := h.ch.take hm hz (by omega)
 refine ⟨⟨h1.only hm (by omega) hn (mI hz), fun x hx => ?_⟩, fun v hv => ?_⟩
 · have hxb : x ≠ b := fun e => hn (by rw [← e]; exact hx)
   have hxN := h.ch.lt x (by simp [hx])
   rw [(mI hz).2 _ (je hxb (by omega))]
   rw [show nth (fw c 0 b zs) (ai c x 0) = takeN c 0 b zs (ai c x 0) from dU _ (by rw [hz]; exact fK hxN (by omega))]
   unfold takeN
   rw [if_neg (dP (by omega)), if_neg (dP (by omega)), if_neg (dP (by omega)), if_neg (by rw [gW, kZ hm (by omega) (by omega)]; omega)]
   exact h.fr x (by simp [hx])
 · rw [nX hz (fK hb hv), if_pos (qo hv)]
theorem Ba (hm : c.May) (hz : zs.length = c.size) {i : Nat} (hi : ¬ jE c b i) (h3 : ¬ i < 3) : nth (dB c b zs) i = nth zs i := by
 rw [(mI hz).2 i hi]
 by_cases h : i < c.size
 · rw [show nth (fw c 0 b zs) i = takeN c 0 b zs i from dU _ (by omega)]
   unfold takeN
   have hw := hm.w
   rw [if_neg (by omega), if_neg (by omega), if_neg (by omega), if_neg (fun e => hi (by rw [e, gW]; exact qo (by omega)))]
 · rw [dL (by rw [eY]; omega), dL (by omega)]
theorem dm.give (h : dm c zs l) (hm : c.May) (hz : zs.length = c.size) (hb : b < c.N) (hn : b ∉ l) : dm c (bf c b zs) (b :: l) ∧ nth (bf c b zs) (ai c b 0) = 0 := by
 have hw := hm.w
 have h1 := h.only hm hn (bT.set (v := 0) (by omega) 0)
 have hz1 : (zs.set (ai c b 0) 0).length = c.size := by simp [hz]
 have g : ∀ x, x < c.N → nth (bf c b zs) (ai c x 0) = nth (zs.set (ai c b 0) 0) (ai c x 0) := fun x hx => by
   unfold bf
   rw [show nth (pO c 0 b (zs.set (ai c b 0) 0)) (ai c x 0) = oH c 0 b (zs.set (ai c b 0) 0) (ai c x 0) from dU _ (by rw [hz1]; exact fK hx (by omega))]
   unfold oH
   rw [if_neg (dP (by omega)), if_neg (dP (by omega)), if_neg (dP (by omega)), if_neg (by rw [gW, kZ hm (by omega) (by omega)]; omega)]
 have hb0 : nth (bf c b zs) (ai c b 0) = 0 := by rw [g b hb, aZ (by rw [hz]; exact fK hb (by omega))]
 refine ⟨⟨h1.ch.push hm hz1 (by omega) hb hn, fun x hx => ?_⟩, hb0⟩
 rcases List.mem_cons.1 hx with rfl | hx
 · exact hb0
 · rw [g x (h.ch.lt x hx)]; exact h1.fr x hx
theorem nW (hm : c.May) (hz : zs.length = c.size) {i : Nat} (hi : i ≠ ai c b 0) (h5 : i ≠ ai c b 5) (h3 : ¬ i < 3) : nth (bf c b zs) i = nth zs i := by
 unfold bf
 by_cases h : i < c.size
 · rw [show nth (pO c 0 b (zs.set (ai c b 0) 0)) i = oH c 0 b (zs.set (ai c b 0) 0) i from dU _ (by simp; omega)]
   unfold oH
   rw [if_neg (by omega), if_neg (by omega), if_neg (by omega), if_neg (show ¬ i = gF c b from h5), ax (fun e => hi e.symm)]
 · rw [dL (by rw [sV]; simp; omega), dL (by omega)]
end
def fq (o : Option Nat) : Nat := match o with | some _ => 1 | none => 0
theorem St.Ko (s : St) (o : Option Nat) : s.ask o = ⟨s.zs, s.m + fq o⟩ := by cases o <;> rfl
theorem vR (o : Option Nat) : fq o ≤ 1 := by cases o <;> simp [fq]
def oP (c : Cf) (zs : List Int) (b : Int) : Int := (⟨zs, 0⟩ : St).at? (aO c b 0)
theorem Ec {c : Cf} {zs : List Int} {b : Int} (h : ¬ (0 ≤ b ∧ b < (c.N : Int))) : oP c zs b = 0 := by
 unfold oP aO kF
 rw [decide_eq_false h]; rfl
theorem qJ {c : Cf} {zs : List Int} {b : Nat} (hm : c.May) (h : b < c.N) : oP c zs (b : Int) = nth zs (ai c b 0) := by
 unfold oP
 have := gG (c := c) (b := b) (v := 0) h (by have := hm.w; omega)
 rw [show ((0 : Nat) : Int) = 0 from rfl] at this
 rw [this]; rfl
theorem vZ (p : Pl) (c : Cf) (s : St) (b t : Int) (w : World) (hG : G w p c s) (ht : oP c s.zs b = t) :
   Calls Tryz.prog 100 #[.pointer (some ⟨p.a, 0, none⟩), .int .i64 b, .int .i64 0] w (GP w p c ⟨s.zs, s.m + fq (aO c b 0)⟩ (.int .u32 t)) := by
 subst ht
 have h := yg p c s b 0 w hG
 rw [s.Ko] at h
 exact h
theorem Br {w : World} {p : Pl} {c : Cf} {s : St} (hG : G w p c s) (b : Int) : 0 ≤ oP c s.zs b ∧ oP c s.zs b ≤ 4294967295 := St.at?_wf (s := ⟨s.zs, 0⟩) hG.wf _
end Go.Proofs.YtbhhfnlkpieebaaGreat.Pk
