/-
  Texts laid together: GroFn, ChainMath, Acts, RingMath, PoolMath, TagI.
-/
import Derived.Test.YtljdbaddockfcaaGreatStoFn
import Derived.Test.YtljdbaddockfcaaGreatBaseEtc
import Derived.Test.YtljdbaddockfcaaGreatPlanFn
import Derived.BigQuiet
import Derived.IntWalk
import Derived.LoopTactic
/-
  Grd: A ground in memory: a store, and beside it the configuration it was made of. Its words as a list; its meter as the number of accesses.
  Ground: The program's ground.
  Ground2: The program's ground: whole blocks, all words, the meter, the configuration; new ones.
  GAt: A ground's calls at places that there are: registers, root slots and words whose numbers are known to be right.
-/

namespace Go.Proofs.YtljdbaddockfcaaGreat.Pk
open Go.RowKit
set_option linter.unusedVariables false
set_option linter.unusedSimpArgs false

theorem bne_of' {a b : Int} (h : a ≠ b) : (a == b) = false := by rw [beq_eq_false_iff_ne]; exact h
/-- A configuration's numbers. -/
structure Cf where
  N : Nat
  W : Nat
  R : Nat
  K : Nat
def Cf.May (c : Cf) : Prop := Pk.May (c.N : Int) (c.W : Int) (c.R : Int) (c.K : Int)
def Cf.size (c : Cf) : Nat := 24 + c.R + c.N * c.W
def Cf.val (c : Cf) : Value := .agg #[.int .i64 (c.N : Int), .int .i64 (c.W : Int), .int .i64 (c.R : Int), .int .i64 (c.K : Int)]
theorem Cf.May.nw {c : Cf} (h : c.May) : 16 ≤ c.N * c.W ∧ c.N * c.W ≤ 4194304 := by
  obtain ⟨h1, h2⟩ := nw_bd h
  have e : ((c.N * c.W : Nat) : Int) = (c.N : Int) * (c.W : Int) := Int.natCast_mul _ _
  omega
theorem Cf.May.n {c : Cf} (h : c.May) : 1 ≤ c.N ∧ c.N ≤ 1048576 := by have := h.n0; have := h.n1; omega
theorem Cf.May.w {c : Cf} (h : c.May) : 16 ≤ c.W ∧ c.W ≤ 256 := by have := h.w0; have := h.w1; omega
theorem Cf.May.r {c : Cf} (h : c.May) : 1 ≤ c.R ∧ c.R ≤ 4096 := by have := h.r0; have := h.r1; omega
theorem Cf.May.k {c : Cf} (h : c.May) : 1 ≤ c.K ∧ c.K ≤ 65536 := by have := h.k0; have := h.k1; omega
theorem Cf.May.size {c : Cf} (h : c.May) : 41 ≤ c.size ∧ c.size ≤ 4198424 := by
  have := h.nw; have := h.r; unfold Cf.size; omega

/-- Where a ground lies: its own block, its store's, its words'. -/
structure Pl where
  a : Nat
  s : Nat
  g : Nat

/-- What a ground holds: its words, and how many accesses there were. -/
structure St where
  zs : List Int
  m : Nat

/-- Words are numbers of 32 bits. -/
def WfZ (zs : List Int) : Prop := ∀ k, 0 ≤ nth zs k ∧ nth zs k ≤ 4294967295
theorem nth_set_eq {zs : List Int} {k : Nat} (hk : k < zs.length) (v : Int) : nth (zs.set k v) k = v := by unfold nth; simp [List.getD, hk]
theorem nth_set_ne {zs : List Int} {k j : Nat} (h : k ≠ j) (v : Int) : nth (zs.set k v) j = nth zs j := by unfold nth; simp [List.getD, h]
theorem nth_out {zs : List Int} {k : Nat} (hk : zs.length ≤ k) : nth zs k = 0 := by unfold nth; simp [List.getD, hk]
theorem nth_rep (q k : Nat) : nth (List.replicate q 0) k = 0 := by
  unfold nth
  rw [List.getD_eq_getElem?_getD, List.getElem?_replicate]
  split <;> rfl
theorem WfZ.set {zs : List Int} (h : WfZ zs) (k : Nat) {v : Int} (h0 : 0 ≤ v) (h1 : v ≤ 4294967295) : WfZ (zs.set k v) := by
  intro j
  by_cases e : k = j
  · subst e
    by_cases hk : k < zs.length
    · rw [nth_set_eq hk]; exact ⟨h0, h1⟩
    · rw [nth_out (by simp; omega)]; omega
  · rw [nth_set_ne e]; exact h j
theorem WfZ.rep (q : Nat) : WfZ (List.replicate q 0) := fun k => by rw [nth_rep]; omega

/-- The ground at p, of the configuration c, with the words and accesses s. tg, ts, e: the types. -/
structure Grd (tg ts e : TypeId) (w : World) (p : Pl) (c : Cf) (s : St) : Prop where
  head : Blk w p.a #[.pointer (some ⟨p.s, 0, none⟩), .int .i64 (c.N : Int), .int .i64 (c.W : Int), .int .i64 (c.R : Int), .int .i64 (c.K : Int)] tg
  st : Sto w ts e p.s p.g s.zs (u64m s.m)
  len : s.zs.length = c.size
  as_ : p.a ≠ p.s
  ag : p.a ≠ p.g
  may : c.May
  wf : WfZ s.zs
/-- The ground's blocks that calls may change. -/
def inG (p : Pl) : Nat → Prop := inSto p.s p.g
/-- .. and all its blocks. -/
def ofG (p : Pl) : Nat → Prop := fun k => k = p.a ∨ inSto p.s p.g k

theorem Grd.touch {tg ts e : TypeId} {X : Nat → Prop} {w w' : World} {p : Pl} {c : Cf} {s : St} (h : Grd tg ts e w p c s) (k : Touch X w w') (hX : ∀ b, ofG p b → ¬ X b) : Grd tg ts e w' p c s :=
  ⟨h.head.touch k (hX _ (.inl rfl)), h.st.touch k (hX _ (.inr (.inl rfl))) (hX _ (.inr (.inr rfl))), h.len, h.as_, h.ag, h.may, h.wf⟩
theorem Grd.later {tg ts e : TypeId} {w w' : World} {p : Pl} {c : Cf} {s : St} (h : Grd tg ts e w p c s) (k : Below w.heap.size w w') : Grd tg ts e w' p c s :=
  ⟨h.head.later k, h.st.later k, h.len, h.as_, h.ag, h.may, h.wf⟩
theorem Grd.drew {tg ts e : TypeId} {w : World} {p : Pl} {c : Cf} {s : St} (h : Grd tg ts e w p c s) : Grd tg ts e w.drew p c s := ⟨h.head.drew, h.st.drew, h.len, h.as_, h.ag, h.may, h.wf⟩
theorem Grd.alloc {tg ts e : TypeId} {w : World} {p : Pl} {c : Cf} {s : St} (h : Grd tg ts e w p c s) (o : Obj) : Grd tg ts e (w.alloc o) p c s := ⟨h.head.alloc o, h.st.alloc o, h.len, h.as_, h.ag, h.may, h.wf⟩
theorem Grd.drw {tg ts e : TypeId} {w w' : World} {p : Pl} {c : Cf} {s : St} (h : Grd tg ts e w p c s) (k : Drw w w') : Grd tg ts e w' p c s := h.later k.new
theorem Grd.ptr {tg ts e : TypeId} {w : World} {p : Pl} {c : Cf} {s : St} (h : Grd tg ts e w p c s) : w.cell? ⟨p.a, 0, none⟩ = some (.pointer (some ⟨p.s, 0, none⟩)) := h.head.cell 0 rfl
theorem Grd.cN {tg ts e : TypeId} {w : World} {p : Pl} {c : Cf} {s : St} (h : Grd tg ts e w p c s) : w.cell? ⟨p.a, 1, none⟩ = some (.int .i64 (c.N : Int)) := h.head.cell 1 rfl
theorem Grd.cW {tg ts e : TypeId} {w : World} {p : Pl} {c : Cf} {s : St} (h : Grd tg ts e w p c s) : w.cell? ⟨p.a, 2, none⟩ = some (.int .i64 (c.W : Int)) := h.head.cell 2 rfl
theorem Grd.cR {tg ts e : TypeId} {w : World} {p : Pl} {c : Cf} {s : St} (h : Grd tg ts e w p c s) : w.cell? ⟨p.a, 3, none⟩ = some (.int .i64 (c.R : Int)) := h.head.cell 3 rfl
theorem Grd.cK {tg ts e : TypeId} {w : World} {p : Pl} {c : Cf} {s : St} (h : Grd tg ts e w p c s) : w.cell? ⟨p.a, 4, none⟩ = some (.int .i64 (c.K : Int)) := h.head.cell 4 rfl
/-- A call has changed the store's blocks alone. -/
theorem Grd.step {tg ts e : TypeId} {w w' : World} {p : Pl} {c : Cf} {s s' : St} (h : Grd tg ts e w p c s) (hS : Sto w' ts e p.s p.g s'.zs (u64m s'.m)) (k : Touch (inG p) w w') (hl : s'.zs.length = s.zs.length) (hw : WfZ s'.zs) : Grd tg ts e w' p c s' :=
  ⟨h.head.touch k (by have := h.as_; have := h.ag; unfold inG inSto; omega), hS, hl.trans h.len, h.as_, h.ag, h.may, hw⟩

/-! ### What the ground's calls do, as functions of what it holds -/
/-- One access to the word k. -/
def St.got (s : St) : St := ⟨s.zs, s.m + 1⟩
def St.set (s : St) (k : Nat) (v : Int) : St := ⟨s.zs.set k v, s.m + 1⟩
theorem St.set_len (s : St) (k : Nat) (v : Int) : (s.set k v).zs.length = s.zs.length := by simp [St.set]

/-- A number below a bound, from 0 on. -/
def bel (n : Int) (b : Nat) : Bool := decide (0 ≤ n ∧ n < (b : Int))
theorem bel_nat {n : Int} {b : Nat} (h : bel n b = true) : ∃ k : Nat, n = (k : Int) ∧ k < b := by
  unfold bel at h
  have := of_decide_eq_true h
  exact ⟨n.toNat, by omega, by omega⟩
theorem bel_mk {k b : Nat} (h : k < b) : bel (k : Int) b = true := by unfold bel; exact decide_eq_true (by omega)
theorem bel_no {n : Int} {b : Nat} (h : bel n b = false) : n < 0 ∨ (b : Int) ≤ n := by
  unfold bel at h
  have := of_decide_eq_false h
  omega
/-- Where a register, a root slot, a block's word lies. -/
def regA (r : Int) : Option Nat := if bel r 24 then some r.toNat else none
def wordA (c : Cf) (b w : Int) : Option Nat := if bel b c.N && bel w c.W then some (24 + c.R + b.toNat * c.W + w.toNat) else none
theorem wordA_lt' {c : Cf} {b w : Nat} (hb : b < c.N) (hw : w < c.W) : 24 + c.R + b * c.W + w < c.size := by
  have h : (b + 1) * c.W ≤ c.N * c.W := Nat.mul_le_mul_right _ hb
  rw [Nat.add_mul, Nat.one_mul] at h
  unfold Cf.size
  omega
theorem regA_lt {c : Cf} {r : Int} {k : Nat} (h : regA r = some k) : k < c.size := by
  unfold regA at h
  split at h
  · rename_i hb
    obtain ⟨j, rfl, hj⟩ := bel_nat hb
    cases h
    unfold Cf.size
    omega
  · cases h
theorem wordA_lt {c : Cf} {b w : Int} {k : Nat} (h : wordA c b w = some k) : k < c.size := by
  unfold wordA at h
  split at h
  · rename_i hb
    rw [Bool.and_eq_true] at hb
    obtain ⟨j, rfl, hj⟩ := bel_nat hb.1
    obtain ⟨i, rfl, hi⟩ := bel_nat hb.2
    cases h
    exact wordA_lt' hj hi
  · cases h

/-- What is told of a place, and what the ground holds then. -/
def St.at? (s : St) (k : Option Nat) : Int := match k with | some k => nth s.zs k | none => 0
def St.ask (s : St) (k : Option Nat) : St := match k with | some _ => s.got | none => s
def St.put (s : St) (k : Option Nat) (v : Int) : St := match k with | some k => s.set k v | none => s
/-- May v be a word? -/
def fitsB (v : Int) : Bool := decide (0 ≤ v ∧ v ≤ 4294967295)
/-- .. of a number that may not fit. -/
def St.putN (s : St) (k : Option Nat) (v : Int) : St := if fitsB v then s.put k v else s
def putB (k : Option Nat) (v : Int) : Bool := k.isSome && fitsB v
theorem St.at?_wf {s : St} (h : WfZ s.zs) (k : Option Nat) : 0 ≤ s.at? k ∧ s.at? k ≤ 4294967295 := by
  cases k with
  | none => show (0:Int) ≤ 0 ∧ (0:Int) ≤ 4294967295; decide
  | some k => exact h k
theorem fitsB_yes {v : Int} (h : fitsB v = true) : 0 ≤ v ∧ v ≤ 4294967295 := of_decide_eq_true h
theorem fitsB_mk {v : Int} (h0 : 0 ≤ v) (h1 : v ≤ 4294967295) : fitsB v = true := decide_eq_true ⟨h0, h1⟩

/-- A call on a ground: what it returns, and the ground then. -/
def GPost (tg ts e : TypeId) (w : World) (p : Pl) (c : Cf) (s : St) (v : Value) (en : Ending) (w' : World) : Prop :=
  en = .returned v ∧ Grd tg ts e w' p c s ∧ Touch (inG p) w w'

end Go.Proofs.YtljdbaddockfcaaGreat.Pk

namespace Go.Proofs.YtljdbaddockfcaaGreat.Pk
open Go.RowKit
set_option linter.unusedVariables false
set_option linter.unusedSimpArgs false

/-- The program's ground. -/
abbrev G := Grd 76 178 79
abbrev GP := GPost 76 178 79

theorem below_any (n b : Int) (w : World) : Calls Tryz.prog 170 #[.int .i64 n, .int .i64 b] w fun e w' => e = .returned (.bool (decide (0 ≤ n ∧ n < b))) ∧ w = w' := by
  by_cases h : 0 ≤ n
  · go_enter Tryz.func170, Tryz.ntmps170
    go_wp2
    go_ret
    exact ⟨ret_bool (by simp [h]), rfl⟩
  · have h' : n < 0 := by omega
    go_enter Tryz.func170, Tryz.ntmps170
    go_wp2
    go_ret
    exact ⟨ret_bool (by simp; omega), rfl⟩
theorem belowB_any (n : Int) (b : Nat) (w : World) : Calls Tryz.prog 170 #[.int .i64 n, .int .i64 (b : Int)] w fun e w' => e = .returned (.bool (bel n b)) ∧ w = w' := below_any n b w
theorem belowR_any (n : Int) (w : World) : Calls Tryz.prog 170 #[.int .i64 n, .int .i64 24] w fun e w' => e = .returned (.bool (bel n 24)) ∧ w = w' := below_any n 24 w
theorem g_fits_any (n : Int) (w : World) : Calls Tryz.prog 155 #[.int .i64 n] w fun e w' => e = .returned (.bool (fitsB n)) ∧ w = w' := by
  by_cases h : 0 ≤ n
  · go_enter Tryz.func155, Tryz.ntmps155
    go_wp2
    go_ret
    exact ⟨ret_bool (by unfold fitsB; simp [h]), rfl⟩
  · have h' : n < 0 := by omega
    go_enter Tryz.func155, Tryz.ntmps155
    go_wp2
    go_ret
    exact ⟨ret_bool (by unfold fitsB; simp; omega), rfl⟩

theorem eqB {P : Program} {f : FuncId} {args : Array Value} {w : World} {a b : Bool} (h : Calls P f args w fun e w' => e = .returned (.bool a) ∧ w = w') (hab : a = b) :
    Calls P f args w fun e w' => e = .returned (.bool b) ∧ w = w' := hab ▸ h

theorem asV {P : Program} {f : FuncId} {args : Array Value} {w : World} {a b : Value} {Q : World → Prop} (h : Calls P f args w fun e w' => e = .returned a ∧ Q w') (hab : a = b) :
    Calls P f args w fun e w' => e = .returned b ∧ Q w' := hab ▸ h

/-- A place's number, and whether there is one. -/
def atV (k : Option Nat) : Value := match k with | some k => .tuple #[.int .i64 (k : Int), .bool true] | none => .tuple #[.int .i64 0, .bool false]
theorem atV_some {o : Option Nat} {k : Nat} (h : o = some k) : atV o = .tuple #[.int .i64 (k : Int), .bool true] := by rw [h]; rfl
theorem atV_none {o : Option Nat} (h : o = none) : atV o = .tuple #[.int .i64 0, .bool false] := by rw [h]; rfl

theorem regAt_any (p : Pl) (c : Cf) (s : St) (r : Int) (w : World) (hG : G w p c s) :
    Calls Tryz.prog 130 #[.pointer (some ⟨p.a, 0, none⟩), .int .i64 r] w fun e w' => e = .returned (atV (regA r)) ∧ w = w' := by
  clear hG
  by_cases h : bel r 24 = true
  · obtain ⟨k, rfl, hk⟩ := bel_nat h
    have e1 : regA (k : Int) = some k := by unfold regA; rw [if_pos h]; simp
    rw [e1]
    clear e1
    go_enter Tryz.func130, Tryz.ntmps130
    go_wp2_with fail
    refine (eqB (belowR_any _ _) h).mono ?_
    rintro e w1 ⟨rfl, rfl⟩
    go_wp2_with fail
    go_ret2
    exact ⟨rfl, rfl⟩
  · have h' : bel r 24 = false := by simpa using h
    have e1 : regA r = none := by unfold regA; rw [if_neg h]
    rw [e1]
    clear e1
    go_enter Tryz.func130, Tryz.ntmps130
    go_wp2_with fail
    refine (eqB (belowR_any _ _) h').mono ?_
    rintro e w1 ⟨rfl, rfl⟩
    go_wp2_with fail
    go_ret2
    exact ⟨rfl, rfl⟩

theorem wordAt_yes (p : Pl) (c : Cf) (s : St) (b v : Nat) (w : World) (hG : G w p c s) (hb : b < c.N) (hv : v < c.W) :
    Calls Tryz.prog 123 #[.pointer (some ⟨p.a, 0, none⟩), .int .i64 (b : Int), .int .i64 (v : Int)] w fun e w' => e = .returned (atV (some (24 + c.R + b * c.W + v))) ∧ Drw w w' := by
  have cN := hG.cN
  have cW := hG.cW
  have cR := hG.cR
  have hR := hG.may.r
  have hW := hG.may.w
  have hN := hG.may.n
  have hsz := hG.may.size
  have hlt := wordA_lt' hb hv
  have e0 : ((b * c.W : Nat) : Int) = (b : Int) * (c.W : Int) := Int.natCast_mul _ _
  have hbw : 0 ≤ (b : Int) * (c.W : Int) ∧ (b : Int) * (c.W : Int) ≤ 4198424 := by omega
  clear hG
  have w1 : IntKind.i64.wrap (24 + (c.R : Int)) = 24 + (c.R : Int) := IntWalk.i64_in _ (by omega)
  have w2 : IntKind.i64.wrap ((b : Int) * (c.W : Int)) = (b : Int) * (c.W : Int) := by
    generalize (b : Int) * (c.W : Int) = x at hbw ⊢
    exact IntWalk.i64_in _ (by omega)
  have w3 : IntKind.i64.wrap (24 + (c.R : Int) + (b : Int) * (c.W : Int)) = 24 + (c.R : Int) + (b : Int) * (c.W : Int) := by
    generalize (b : Int) * (c.W : Int) = x at hbw ⊢
    exact IntWalk.i64_in _ (by omega)
  have w4 : IntKind.i64.wrap (24 + (c.R : Int) + (b : Int) * (c.W : Int) + (v : Int)) = 24 + (c.R : Int) + (b : Int) * (c.W : Int) + (v : Int) := by
    generalize (b : Int) * (c.W : Int) = x at hbw ⊢
    exact IntWalk.i64_in _ (by omega)
  have hB := Lib.hid (bel_mk hb)
  have hV := Lib.hid (bel_mk hv)
  have E0 := Lib.hid e0
  clear hb hv e0 hlt hsz
  go_enter Tryz.func123, Tryz.ntmps123
  go_wp2_with fail
  refine (eqB (belowB_any _ _ _) hB.out).mono ?_
  rintro e w1 ⟨rfl, rfl⟩
  go_wp2_with fail
  refine (eqB (belowB_any _ _ _) hV.out).mono ?_
  rintro e w1 ⟨rfl, rfl⟩
  go_wp2_with fail
  go_quiet (fail)
  go_wp2_with fail
  go_ret2
  exact ⟨by have := E0.out; simp [atV], Drw.refl _ |>.step _⟩

theorem wordAt_no1 (p : Pl) (c : Cf) (s : St) (b v : Int) (w : World) (hG : G w p c s) (hb : bel b c.N = false) :
    Calls Tryz.prog 123 #[.pointer (some ⟨p.a, 0, none⟩), .int .i64 b, .int .i64 v] w fun e w' => e = .returned (atV none) ∧ Drw w w' := by
  have cN := hG.cN
  have cW := hG.cW
  have hB := Lib.hid hb
  clear hG hb
  go_enter Tryz.func123, Tryz.ntmps123
  go_wp2_with fail
  refine (eqB (belowB_any _ _ _) hB.out).mono ?_
  rintro e w1 ⟨rfl, rfl⟩
  go_wp2_with fail
  go_ret2
  exact ⟨rfl, Drw.refl _⟩
theorem wordAt_no2 (p : Pl) (c : Cf) (s : St) (b v : Int) (w : World) (hG : G w p c s) (hA0 : bel b c.N = true) (hb : bel v c.W = false) :
    Calls Tryz.prog 123 #[.pointer (some ⟨p.a, 0, none⟩), .int .i64 b, .int .i64 v] w fun e w' => e = .returned (atV none) ∧ Drw w w' := by
  have cN := hG.cN
  have cW := hG.cW
  have hB := Lib.hid hb
  have hA := Lib.hid hA0
  clear hA0
  clear hG hb
  go_enter Tryz.func123, Tryz.ntmps123
  go_wp2_with fail
  refine (eqB (belowB_any _ _ _) hA.out).mono ?_
  rintro e w1 ⟨rfl, rfl⟩
  go_wp2_with fail
  refine (eqB (belowB_any _ _ _) hB.out).mono ?_
  rintro e w1 ⟨rfl, rfl⟩
  go_wp2_with fail
  go_ret2
  exact ⟨rfl, Drw.refl _⟩
theorem wordAt_any (p : Pl) (c : Cf) (s : St) (b v : Int) (w : World) (hG : G w p c s) :
    Calls Tryz.prog 123 #[.pointer (some ⟨p.a, 0, none⟩), .int .i64 b, .int .i64 v] w fun e w' => e = .returned (atV (wordA c b v)) ∧ Drw w w' := by
  by_cases h1 : bel b c.N = true
  · by_cases h2 : bel v c.W = true
    · obtain ⟨i, rfl, hi⟩ := bel_nat h1
      obtain ⟨j, rfl, hj⟩ := bel_nat h2
      have e : wordA c (i : Int) (j : Int) = some (24 + c.R + i * c.W + j) := by unfold wordA; rw [h1, h2]; simp
      rw [e]
      exact wordAt_yes p c s i j w hG hi hj
    · have e : wordA c b v = none := by unfold wordA; simp [h2]
      rw [e]
      exact wordAt_no2 p c s b v w hG h1 (by simpa using h2)
  · have e : wordA c b v = none := by unfold wordA; simp [h1]
    rw [e]
    exact wordAt_no1 p c s b v w hG (by simpa using h1)

theorem reg_any (p : Pl) (c : Cf) (s : St) (r : Int) (w : World) (hG : G w p c s) :
    Calls Tryz.prog 66 #[.pointer (some ⟨p.a, 0, none⟩), .int .i64 r] w (GP w p c (s.ask (regA r)) (.int .i64 (s.at? (regA r)))) := by
  have HG := Lib.hid hG
  clear hG
  cases hk : regA r with
  | none =>
    have HK := Lib.hid hk
    clear hk
    go_enter Tryz.func66, Tryz.ntmps66
    go_wp2_with fail
    refine (asV (regAt_any p c s r _ HG.out) (atV_none HK.out)).mono ?_
    rintro e w1 ⟨rfl, rfl⟩
    have HD := Lib.hid (Drw.refl w)
    have HG1 := HG
    have cp := HG1.out.ptr
    go_wp2_with fail
    go_ret
    exact ⟨rfl, HG1.out, Touch.of_below (HD.out.new)⟩
  | some k =>
    have HK := Lib.hid hk
    have HL := Lib.hid (show k < s.zs.length by rw [HG.out.len]; exact regA_lt hk)
    clear hk
    have hwr : IntKind.i64.wrap (nth s.zs k) = nth s.zs k := by have := HG.out.wf k; exact IntWalk.i64_in _ (by omega)
    go_enter Tryz.func66, Tryz.ntmps66
    go_wp2_with fail
    refine (asV (regAt_any p c s r _ HG.out) (atV_some HK.out)).mono ?_
    rintro e w1 ⟨rfl, rfl⟩
    have HD := Lib.hid (Drw.refl w)
    have HG1 := HG
    have cp := HG1.out.ptr
    go_wp2_with fail
    refine (mget_yes p.s p.g s.zs s.m k _ HG1.out.st HL.out).mono ?_
    rintro e w2 ⟨rfl, hS, hT⟩
    have HS := Lib.hid hS
    have HT := Lib.hid hT
    clear hS hT
    go_wp2_with fail
    go_ret
    exact ⟨rfl, HG1.out.step (s' := s.got) HS.out HT.out rfl HG1.out.wf, (Touch.of_below (HD.out.new)).trans HT.out⟩
theorem seereg_any (p : Pl) (c : Cf) (s : St) (r : Int) (w : World) (hG : G w p c s) :
    Calls Tryz.prog 69 #[.pointer (some ⟨p.a, 0, none⟩), .int .i64 r] w fun e w' => e = .returned (.int .i64 (s.at? (regA r))) ∧ w = w' := by
  have HG := Lib.hid hG
  clear hG
  cases hk : regA r with
  | none =>
    have HK := Lib.hid hk
    clear hk
    go_enter Tryz.func69, Tryz.ntmps69
    go_wp2_with fail
    refine (asV (regAt_any p c s r _ HG.out) (atV_none HK.out)).mono ?_
    rintro e w1 ⟨rfl, rfl⟩
    have HD := Lib.hid (Drw.refl w)
    have HG1 := HG
    have cp := HG1.out.ptr
    go_wp2_with fail
    go_ret
    exact ⟨rfl, rfl⟩
  | some k =>
    have HK := Lib.hid hk
    have HL := Lib.hid (show k < s.zs.length by rw [HG.out.len]; exact regA_lt hk)
    clear hk
    have hwr : IntKind.i64.wrap (nth s.zs k) = nth s.zs k := by have := HG.out.wf k; exact IntWalk.i64_in _ (by omega)
    go_enter Tryz.func69, Tryz.ntmps69
    go_wp2_with fail
    refine (asV (regAt_any p c s r _ HG.out) (atV_some HK.out)).mono ?_
    rintro e w1 ⟨rfl, rfl⟩
    have HD := Lib.hid (Drw.refl w)
    have HG1 := HG
    have cp := HG1.out.ptr
    go_wp2_with fail
    refine (peek_yes p.s p.g s.zs _ k _ HG1.out.st HL.out).mono ?_
    rintro e w2 ⟨rfl, rfl⟩
    go_wp2_with fail
    go_ret
    exact ⟨rfl, rfl⟩
theorem setreg_any (p : Pl) (c : Cf) (s : St) (r : Int) (x : Int) (w : World) (hG : G w p c s) :
    Calls Tryz.prog 96 #[.pointer (some ⟨p.a, 0, none⟩), .int .i64 r, .int .i64 x] w (GP w p c (s.putN (regA r) x) (.bool (putB (regA r) x))) := by
  have HG := Lib.hid hG
  clear hG
  cases hk : regA r with
  | none =>
    have HK := Lib.hid hk
    have E : Hid (s.putN none x = s) := Lib.hid (by unfold St.putN; split <;> rfl)
    clear hk
    go_enter Tryz.func96, Tryz.ntmps96
    go_wp2_with fail
    refine (asV (regAt_any p c s r _ HG.out) (atV_none HK.out)).mono ?_
    rintro e w1 ⟨rfl, rfl⟩
    have HD := Lib.hid (Drw.refl w)
    have HG1 := HG
    have cp := HG1.out.ptr
    go_wp2_with fail
    go_ret
    exact ⟨rfl, by rw [E.out]; exact HG1.out, Touch.of_below (HD.out.new)⟩
  | some k =>
    have HK := Lib.hid hk
    have HL := Lib.hid (show k < s.zs.length by rw [HG.out.len]; exact regA_lt hk)
    clear hk
    by_cases hf : fitsB x = true
    · have hr := fitsB_yes hf
      have hwr : IntKind.u32.wrap x = x := IntWalk.u32_in _ (by omega)
      have HF := Lib.hid hf
      clear hf
      go_enter Tryz.func96, Tryz.ntmps96
      go_wp2_with fail
      refine (asV (regAt_any p c s r _ HG.out) (atV_some HK.out)).mono ?_
      rintro e w1 ⟨rfl, rfl⟩
      have HD := Lib.hid (Drw.refl w)
      have HG1 := HG
      have cp := HG1.out.ptr
      go_wp2_with fail
      refine (eqB (g_fits_any _ _) HF.out).mono ?_
      rintro e w1 ⟨rfl, rfl⟩
      go_wp2_with fail
      refine (mput_yes p.s p.g s.zs s.m x k _ HG1.out.st HL.out).mono ?_
      rintro e w2 ⟨rfl, hS, hT⟩
      have HS := Lib.hid hS
      have HT := Lib.hid hT
      clear hS hT
      go_wp2_with fail
      go_ret
      refine ⟨by unfold putB; rw [HF.out]; rfl, ?_, (Touch.of_below (HD.out.new)).trans HT.out⟩
      rw [show s.putN (some k) x = s.set k x by unfold St.putN; rw [if_pos HF.out]; rfl]
      exact HG1.out.step (s' := s.set k x) HS.out HT.out (s.set_len k x) (HG1.out.wf.set k hr.1 hr.2)
    · have HF := Lib.hid (show fitsB x = false by simpa using hf)
      clear hf
      go_enter Tryz.func96, Tryz.ntmps96
      go_wp2_with fail
      refine (asV (regAt_any p c s r _ HG.out) (atV_some HK.out)).mono ?_
      rintro e w1 ⟨rfl, rfl⟩
      have HD := Lib.hid (Drw.refl w)
      have HG1 := HG
      have cp := HG1.out.ptr
      go_wp2_with fail
      refine (eqB (g_fits_any _ _) HF.out).mono ?_
      rintro e w1 ⟨rfl, rfl⟩
      go_wp2_with fail
      go_ret
      exact ⟨by unfold putB; rw [HF.out]; rfl, by unfold St.putN; rw [if_neg (by rw [HF.out]; simp)]; exact HG1.out, Touch.of_below (HD.out.new)⟩
theorem word_any (p : Pl) (c : Cf) (s : St) (b v : Int) (w : World) (hG : G w p c s) :
    Calls Tryz.prog 61 #[.pointer (some ⟨p.a, 0, none⟩), .int .i64 b, .int .i64 v] w (GP w p c (s.ask (wordA c b v)) (.int .u32 (s.at? (wordA c b v)))) := by
  have HG := Lib.hid hG
  clear hG
  cases hk : wordA c b v with
  | none =>
    have HK := Lib.hid hk
    clear hk
    go_enter Tryz.func61, Tryz.ntmps61
    go_wp2_with fail
    refine (asV (wordAt_any p c s b v _ HG.out) (atV_none HK.out)).mono ?_
    rintro e w1 ⟨rfl, hd⟩
    have HD := Lib.hid hd
    have HG1 := Lib.hid (HG.out.drw hd)
    have cp := HG1.out.ptr
    clear hd
    go_wp2_with fail
    go_ret
    exact ⟨rfl, HG1.out, Touch.of_below (HD.out.new)⟩
  | some k =>
    have HK := Lib.hid hk
    have HL := Lib.hid (show k < s.zs.length by rw [HG.out.len]; exact wordA_lt hk)
    clear hk
    go_enter Tryz.func61, Tryz.ntmps61
    go_wp2_with fail
    refine (asV (wordAt_any p c s b v _ HG.out) (atV_some HK.out)).mono ?_
    rintro e w1 ⟨rfl, hd⟩
    have HD := Lib.hid hd
    have HG1 := Lib.hid (HG.out.drw hd)
    have cp := HG1.out.ptr
    clear hd
    go_wp2_with fail
    refine (mget_yes p.s p.g s.zs s.m k _ HG1.out.st HL.out).mono ?_
    rintro e w2 ⟨rfl, hS, hT⟩
    have HS := Lib.hid hS
    have HT := Lib.hid hT
    clear hS hT
    go_wp2_with fail
    go_ret
    exact ⟨rfl, HG1.out.step (s' := s.got) HS.out HT.out rfl HG1.out.wf, (Touch.of_below (HD.out.new)).trans HT.out⟩
theorem seeword_any (p : Pl) (c : Cf) (s : St) (b v : Int) (w : World) (hG : G w p c s) :
    Calls Tryz.prog 125 #[.pointer (some ⟨p.a, 0, none⟩), .int .i64 b, .int .i64 v] w fun e w' => e = .returned (.int .u32 (s.at? (wordA c b v))) ∧ Drw w w' := by
  have HG := Lib.hid hG
  clear hG
  cases hk : wordA c b v with
  | none =>
    have HK := Lib.hid hk
    clear hk
    go_enter Tryz.func125, Tryz.ntmps125
    go_wp2_with fail
    refine (asV (wordAt_any p c s b v _ HG.out) (atV_none HK.out)).mono ?_
    rintro e w1 ⟨rfl, hd⟩
    have HD := Lib.hid hd
    have HG1 := Lib.hid (HG.out.drw hd)
    have cp := HG1.out.ptr
    clear hd
    go_wp2_with fail
    go_ret
    exact ⟨rfl, HD.out⟩
  | some k =>
    have HK := Lib.hid hk
    have HL := Lib.hid (show k < s.zs.length by rw [HG.out.len]; exact wordA_lt hk)
    clear hk
    go_enter Tryz.func125, Tryz.ntmps125
    go_wp2_with fail
    refine (asV (wordAt_any p c s b v _ HG.out) (atV_some HK.out)).mono ?_
    rintro e w1 ⟨rfl, hd⟩
    have HD := Lib.hid hd
    have HG1 := Lib.hid (HG.out.drw hd)
    have cp := HG1.out.ptr
    clear hd
    go_wp2_with fail
    refine (peek_yes p.s p.g s.zs _ k _ HG1.out.st HL.out).mono ?_
    rintro e w2 ⟨rfl, rfl⟩
    go_wp2_with fail
    go_ret
    exact ⟨rfl, HD.out⟩
theorem setword_any (p : Pl) (c : Cf) (s : St) (b v : Int) (x : Int) (w : World) (hG : G w p c s) (h0 : 0 ≤ x) (h1 : x ≤ 4294967295) :
    Calls Tryz.prog 100 #[.pointer (some ⟨p.a, 0, none⟩), .int .i64 b, .int .i64 v, .int .u32 x] w (GP w p c (s.put (wordA c b v) x) (.bool (wordA c b v).isSome)) := by
  have HG := Lib.hid hG
  clear hG
  cases hk : wordA c b v with
  | none =>
    have HK := Lib.hid hk
    clear hk
    go_enter Tryz.func100, Tryz.ntmps100
    go_wp2_with fail
    refine (asV (wordAt_any p c s b v _ HG.out) (atV_none HK.out)).mono ?_
    rintro e w1 ⟨rfl, hd⟩
    have HD := Lib.hid hd
    have HG1 := Lib.hid (HG.out.drw hd)
    have cp := HG1.out.ptr
    clear hd
    go_wp2_with fail
    go_ret
    exact ⟨rfl, HG1.out, Touch.of_below (HD.out.new)⟩
  | some k =>
    have HK := Lib.hid hk
    have HL := Lib.hid (show k < s.zs.length by rw [HG.out.len]; exact wordA_lt hk)
    clear hk
    go_enter Tryz.func100, Tryz.ntmps100
    go_wp2_with fail
    refine (asV (wordAt_any p c s b v _ HG.out) (atV_some HK.out)).mono ?_
    rintro e w1 ⟨rfl, hd⟩
    have HD := Lib.hid hd
    have HG1 := Lib.hid (HG.out.drw hd)
    have cp := HG1.out.ptr
    clear hd
    go_wp2_with fail
    refine (mput_yes p.s p.g s.zs s.m x k _ HG1.out.st HL.out).mono ?_
    rintro e w2 ⟨rfl, hS, hT⟩
    have HS := Lib.hid hS
    have HT := Lib.hid hT
    clear hS hT
    go_wp2_with fail
    go_ret
    exact ⟨rfl, HG1.out.step (s' := s.set k x) HS.out HT.out (s.set_len k x) (HG1.out.wf.set k h0 h1), (Touch.of_below (HD.out.new)).trans HT.out⟩

end Go.Proofs.YtljdbaddockfcaaGreat.Pk

namespace Go.Proofs.YtljdbaddockfcaaGreat.Pk
open Go.RowKit
set_option linter.unusedVariables false
set_option linter.unusedSimpArgs false

theorem gconf_any (p : Pl) (c : Cf) (s : St) (w : World) (hG : G w p c s) :
    Calls Tryz.prog 13 #[.pointer (some ⟨p.a, 0, none⟩)] w fun e w' => e = .returned c.val ∧ Below w.heap.size w w' := by
  have cN := hG.cN
  have cW := hG.cW
  have cR := hG.cR
  have cK := hG.cK
  have ha := hG.head.lt
  clear hG
  go_enter Tryz.func13, Tryz.ntmps13
  go_wp2_with fail
  exact bodyPost_ret (v := c.val) (by simp [results, Tryz.results13, go_sem, Cf.val]) rfl ⟨rfl, by
    repeat refine Below.setCell ?_ (by simp) _
    exact below_new w _⟩

/-- Words made 0, from one on. -/
def St.wipe (s : St) (f : Nat) : Nat → St
  | 0 => s
  | n + 1 => (s.wipe f n).set (f + n) 0
theorem St.wipe_len (s : St) (f n : Nat) : (s.wipe f n).zs.length = s.zs.length := by
  induction n with
  | zero => rfl
  | succ n ih => rw [← ih]; exact St.set_len _ _ _
theorem St.wipe_m (s : St) (f n : Nat) : (s.wipe f n).m = s.m + n := by
  induction n with
  | zero => rfl
  | succ n ih => show (s.wipe f n).m + 1 = _; omega
theorem St.wipe_nth (s : St) (f n k : Nat) (h : f + n ≤ s.zs.length) : nth (s.wipe f n).zs k = if f ≤ k ∧ k < f + n then 0 else nth s.zs k := by
  induction n with
  | zero => rw [if_neg (by omega)]; rfl
  | succ n ih =>
    show nth ((s.wipe f n).zs.set (f + n) 0) k = _
    by_cases e : f + n = k
    · subst e
      rw [nth_set_eq (by rw [St.wipe_len]; omega), if_pos (by omega)]
    · rw [nth_set_ne e, ih (by omega)]
      by_cases h1 : f ≤ k ∧ k < f + n
      · rw [if_pos h1, if_pos (by omega)]
      · rw [if_neg h1, if_neg (by omega)]
theorem WfZ.wipe {s : St} (h : WfZ s.zs) (f n : Nat) : WfZ (s.wipe f n).zs := by
  induction n with
  | zero => exact h
  | succ n ih => exact WfZ.set ih _ (Int.le_refl _) (by decide)
/-- What Wipe does. -/
def St.wiped (s : St) (c : Cf) (b : Int) : St := match wordA c b 0 with | some f => s.wipe f c.W | none => s

def wipeV (c : Cf) (b : Int) : Int := if bel b c.N then (c.W : Int) else 0
theorem wipe_any (p : Pl) (c : Cf) (s : St) (b : Int) (w : World) (hG : G w p c s) :
    Calls Tryz.prog 197 #[.pointer (some ⟨p.a, 0, none⟩), .int .i64 b] w (GP w p c (s.wiped c b) (.int .i64 (wipeV c b))) := by
  have HG := Lib.hid hG
  clear hG
  have e0 : ((0 : Nat) : Int) = 0 := rfl
  cases hk : wordA c b 0 with
  | none =>
    have HK := Lib.hid hk
    have HB : Hid (bel b c.N = false) := Lib.hid (by
      have := HG.out.may.w
      cases hb : bel b c.N with
      | false => rfl
      | true =>
        have h2 : bel (0 : Int) c.W = true := bel_mk (k := 0) (by omega)
        rw [wordA, hb, h2] at hk
        cases hk)
    clear hk
    go_enter Tryz.func197, Tryz.ntmps197
    go_wp2_with fail
    refine (asV (wordAt_any p c s b 0 _ HG.out) (atV_none HK.out)).mono ?_
    rintro e w1 ⟨rfl, hd⟩
    have HD := Lib.hid hd
    clear hd
    go_wp2_with fail
    go_ret
    refine ⟨by unfold wipeV; rw [HB.out]; rfl, ?_, Touch.of_below HD.out.new⟩
    rw [show s.wiped c b = s by unfold St.wiped; rw [HK.out]]
    exact HG.out.drw HD.out
  | some f =>
    have HK := Lib.hid hk
    have hB : bel b c.N = true := by
      cases hb : bel b c.N with
      | true => rfl
      | false => rw [wordA, hb] at hk; cases hk
    have HF : Hid (f + c.W ≤ c.size) := Lib.hid (by
      obtain ⟨i, rfl, hi⟩ := bel_nat hB
      have h2 : bel (0 : Int) c.W = true := bel_mk (k := 0) (by have := HG.out.may.w; omega)
      rw [wordA, hB, h2] at hk
      cases hk
      have := wordA_lt' (w := c.W - 1) hi (by have := HG.out.may.w; omega)
      have := HG.out.may.w
      simp
      omega)
    have HB := Lib.hid hB
    clear hk hB
    go_enter Tryz.func197, Tryz.ntmps197
    go_wp2_with fail
    refine (asV (wordAt_any p c s b 0 _ HG.out) (atV_some HK.out)).mono ?_
    rintro e w1 ⟨rfl, hd⟩
    have HD := Lib.hid hd
    have HG1 := Lib.hid (HG.out.drw hd)
    have cW := HG1.out.cW
    clear hd
    go_wp2_with fail
    go_loopw [21] (fun i wr => ∃ k : Nat, k ≤ c.W ∧ i = .int .i64 k ∧ G wr p c (s.wipe f k) ∧ Touch (inG p) w wr) (fun i _ => c.W - (intOf i).toNat)
    case atStart => exact ⟨0, Nat.zero_le _, rfl, HG1.out, Touch.of_below HD.out.new⟩
    case round =>
      obtain ⟨k, hkW, rfl, hGk, hTk⟩ := hrel
      have hW := HG.out.may.w
      have HGk := Lib.hid hGk
      have HTk := Lib.hid hTk
      have cp := hGk.ptr
      have cW := hGk.cW
      have hf : f + k ≤ 4198424 := by have := HF.out; have := HG.out.may.size; omega
      have hadd : IntKind.i64.wrap ((f : Int) + (k : Int)) = ((f + k : Nat) : Int) := by rw [IntWalk.i64_in _ (by omega)]; exact (Int.natCast_add f k).symm
      clear hGk hTk
      by_cases hlt : k < c.W
      · have HL : Hid (f + k < (s.wipe f k).zs.length) := Lib.hid (by rw [St.wipe_len, HG.out.len]; have := HF.out; omega)
        go_wp2_with fail
        refine (mput_yes p.s p.g (s.wipe f k).zs (s.wipe f k).m 0 (f + k) _ HGk.out.st HL.out).mono ?_
        rintro e w2 ⟨rfl, hS, hT⟩
        have HS := Lib.hid hS
        have HT := Lib.hid hT
        clear hS hT
        go_wp2_with fail
        go_roundw
        case rel => exact ⟨k + 1, by omega, by go_num, HGk.out.step (s' := s.wipe f (k + 1)) HS.out HT.out (St.set_len _ _ _) (HG.out.wf.wipe f (k + 1)), HTk.out.trans HT.out⟩
        case measure => simp [intOf]; omega
      · obtain rfl : k = c.W := by omega
        go_wp2_with fail
        go_ret
        refine ⟨by unfold wipeV; rw [HB.out]; rfl, ?_, HTk.out⟩
        rw [show s.wiped c b = s.wipe f c.W by unfold St.wiped; rw [HK.out]]
        exact HGk.out

/-- A new ground, all words 0. -/
def NewG (tg ts e : TypeId) (w : World) (c : Cf) (en : Ending) (w' : World) : Prop :=
  ∃ p : Pl, en = .returned (.tuple #[.pointer (some ⟨p.a, 0, none⟩), .int .i64 0]) ∧ Grd tg ts e w' p c ⟨List.replicate c.size 0, 0⟩ ∧ (∀ k, ofG p k → w.heap.size ≤ k) ∧ Below w.heap.size w w'

theorem numsC {c : Cf} : numsV c.N c.W c.R c.K = .agg #[.int .i64 (c.size : Int), .int .i64 ((c.W : Int) - 8), .int .i64 ((c.W : Int) - 7), .int .i64 (fieldsI c.W), .int .i64 (epochI c.N c.W), .int .i64 (drainI c.N c.W), .int .i64 (lagI c.N c.W c.K), .int .i64 (settleI c.N c.W c.K)] := by
  unfold numsV
  have e : wordsI (c.N : Int) (c.W : Int) (c.R : Int) = (c.size : Int) := by
    unfold wordsI Cf.size
    simp [Int.natCast_add, Int.natCast_mul]
  rw [e]

set_option maxHeartbeats 400000 in
theorem gnew_yes (c : Cf) (w : World) (h : c.May) :
    Calls Tryz.prog 70 #[c.val] w (NewG 76 178 79 w c) := by
  have HM := Lib.hid h
  unfold Cf.val
  clear h
  go_enter Tryz.func70, Tryz.ntmps70
  go_wp2_with fail
  refine (ofV _ HM.out numsC).mono ?_
  rintro e w1 ⟨rfl, hb⟩
  obtain ⟨hc, hf⟩ := bcell hb
  have hz : w.heap.size < w1.heap.size := by have := hb.size; simp at this; omega
  have HB := Lib.hid (below_step (below_new w _) hb)
  clear hb
  go_wp2_with fail
  refine (new_yes c.size _ (by have := HM.out.size; omega)).mono ?_
  rintro e w2 ⟨s, g, rfl, hS, hs, hg, hb⟩
  have HS := Lib.hid hS
  have HB2 := Lib.hid hb
  have Hs := Lib.hid hs
  have Hg := Lib.hid hg
  obtain ⟨hc2, hf2⟩ := bcell hb
  have hz2 : w.heap.size < w2.heap.size := by have := hb.size; simp at this; omega
  have c0 : w2.cell? ⟨w.heap.size, 0, none⟩ = some (.int .i64 (c.N : Int)) := by rw [hc2 _ _ (by simp; omega)]; go_simp
  have c1 : w2.cell? ⟨w.heap.size, 1, none⟩ = some (.int .i64 (c.W : Int)) := by rw [hc2 _ _ (by simp; omega)]; go_simp
  have c2 : w2.cell? ⟨w.heap.size, 2, none⟩ = some (.int .i64 (c.R : Int)) := by rw [hc2 _ _ (by simp; omega)]; go_simp
  have c3 : w2.cell? ⟨w.heap.size, 3, none⟩ = some (.int .i64 (c.K : Int)) := by rw [hc2 _ _ (by simp; omega)]; go_simp
  clear hS hs hg hb hc hf hc2 hf2
  go_wp2_with fail
  go_ret2
  exact ⟨⟨w2.heap.size, s, g⟩, rfl, ⟨Blk.new w2 _ _, HS.out.alloc _, by simp, by have := HS.out.head.lt; simp; omega, by have := HS.out.body.lt; simp; omega, HM.out, WfZ.rep _⟩, by
    have h1 := HB.out.size
    have h2 := HB2.out.size
    have h3 := Hs.out
    have h4 := Hg.out
    simp at h2 h3 h4
    intro k hk
    have hk' : k = w2.heap.size ∨ k = s ∨ k = g := hk
    omega, by
    have h1 := HB.out.size
    have h2 := HB2.out.size
    simp at h2
    exact ((HB.out.alloc HB.out.size _).trans (HB2.out.mono (by simp; omega))).alloc (by omega) _⟩

end Go.Proofs.YtljdbaddockfcaaGreat.Pk

namespace Go.Proofs.YtljdbaddockfcaaGreat.Pk
open Go.RowKit
set_option linter.unusedVariables false
set_option linter.unusedSimpArgs false

/-- Where a block's word lies. -/
def adr (c : Cf) (b v : Nat) : Nat := 24 + c.R + b * c.W + v
theorem adr_lt {c : Cf} {b v : Nat} (hb : b < c.N) (hv : v < c.W) : adr c b v < c.size := wordA_lt' hb hv
theorem adr_word {c : Cf} {b v : Nat} (hb : b < c.N) (hv : v < c.W) : wordA c (b : Int) (v : Int) = some (adr c b v) := by
  unfold wordA
  rw [bel_mk hb, bel_mk hv]
  rfl
theorem adr_inj {c : Cf} {a b u v : Nat} (hu : u < c.W) (hv : v < c.W) (h : adr c a u = adr c b v) : a = b ∧ u = v := by
  unfold adr at h
  have h2 : a * c.W + u = b * c.W + v := by omega
  have e1 : (a * c.W + u) / c.W = a := by rw [Nat.add_comm, Nat.add_mul_div_right _ _ (by omega), Nat.div_eq_of_lt hu]; omega
  have e2 : (b * c.W + v) / c.W = b := by rw [Nat.add_comm, Nat.add_mul_div_right _ _ (by omega), Nat.div_eq_of_lt hv]; omega
  have : a = b := by rw [← e1, ← e2, h2]
  subst this
  exact ⟨rfl, by omega⟩
theorem adr_reg {c : Cf} {b v r : Nat} (hr : r < 24) : ¬ r = adr c b v := by unfold adr; omega
theorem adr_reg' {c : Cf} {b v r : Nat} (hr : r < 24) : ¬ adr c b v = r := by unfold adr; omega
theorem reg_is {r : Nat} (h : r < 24) : regA (r : Int) = some r := by
  unfold regA; rw [bel_mk h]; simp

/-- A register that there is. -/
theorem regR (p : Pl) (c : Cf) (s : St) (r : Nat) (x y : Int) (w : World) (hG : G w p c s) (hr : r < 24) (hx : x = (r : Int)) (hy : nth s.zs r = y) :
    Calls Tryz.prog 66 #[.pointer (some ⟨p.a, 0, none⟩), .int .i64 x] w (GP w p c s.got (.int .i64 y)) := by
  subst hx hy
  have h := reg_any p c s (r : Int) w hG
  rw [reg_is hr] at h
  exact h
theorem setregR (p : Pl) (c : Cf) (s : St) (r : Nat) (x y : Int) (w : World) (hG : G w p c s) (hr : r < 24) (hx : x = (r : Int)) (h0 : 0 ≤ y) (h1 : y ≤ 4294967295) :
    Calls Tryz.prog 96 #[.pointer (some ⟨p.a, 0, none⟩), .int .i64 x, .int .i64 y] w (GP w p c (s.set r y) (.bool true)) := by
  subst hx
  have h := setreg_any p c s (r : Int) y w hG
  rw [reg_is hr] at h
  have e : s.putN (some r) y = s.set r y := by unfold St.putN; rw [if_pos (fitsB_mk h0 h1)]; rfl
  have e2 : putB (some r) y = true := by unfold putB; rw [fitsB_mk h0 h1]; rfl
  rw [e, e2] at h
  exact h
/-- A word that there is. -/
theorem wordW (p : Pl) (c : Cf) (s : St) (b v : Nat) (x z y : Int) (w : World) (hG : G w p c s) (hb : b < c.N) (hv : v < c.W) (hx : x = (b : Int)) (hz : z = (v : Int)) (hy : nth s.zs (adr c b v) = y) :
    Calls Tryz.prog 61 #[.pointer (some ⟨p.a, 0, none⟩), .int .i64 x, .int .i64 z] w (GP w p c s.got (.int .u32 y)) := by
  subst hx hz hy
  have h := word_any p c s (b : Int) (v : Int) w hG
  rw [adr_word hb hv] at h
  exact h
theorem setwordW (p : Pl) (c : Cf) (s : St) (b v : Nat) (x z y : Int) (w : World) (hG : G w p c s) (hb : b < c.N) (hv : v < c.W) (hx : x = (b : Int)) (hz : z = (v : Int)) (h0 : 0 ≤ y) (h1 : y ≤ 4294967295) :
    Calls Tryz.prog 100 #[.pointer (some ⟨p.a, 0, none⟩), .int .i64 x, .int .i64 z, .int .u32 y] w (GP w p c (s.set (adr c b v) y) (.bool true)) := by
  subst hx hz
  have h := setword_any p c s (b : Int) (v : Int) y w hG h0 h1
  rw [adr_word hb hv] at h
  exact h
theorem seewordW (p : Pl) (c : Cf) (s : St) (b v : Nat) (x z y : Int) (w : World) (hG : G w p c s) (hb : b < c.N) (hv : v < c.W) (hx : x = (b : Int)) (hz : z = (v : Int)) (hy : nth s.zs (adr c b v) = y) :
    Calls Tryz.prog 125 #[.pointer (some ⟨p.a, 0, none⟩), .int .i64 x, .int .i64 z] w fun e w' => e = .returned (.int .u32 y) ∧ Drw w w' := by
  subst hx hz hy
  have h := seeword_any p c s (b : Int) (v : Int) w hG
  rw [adr_word hb hv] at h
  exact h
theorem seeregR (p : Pl) (c : Cf) (s : St) (r : Nat) (x y : Int) (w : World) (hG : G w p c s) (hr : r < 24) (hx : x = (r : Int)) (hy : nth s.zs r = y) :
    Calls Tryz.prog 69 #[.pointer (some ⟨p.a, 0, none⟩), .int .i64 x] w fun e w' => e = .returned (.int .i64 y) ∧ w = w' := by
  subst hx hy
  have h := seereg_any p c s (r : Int) w hG
  rw [reg_is hr] at h
  exact h
theorem GPost.out {tg ts e : TypeId} {w w' : World} {p : Pl} {c : Cf} {s : St} {v : Value} {en : Ending} (h : GPost tg ts e w p c s v en w') : en = .returned v ∧ Grd tg ts e w' p c s ∧ Touch (inG p) w w' := h
/-- A configuration's first field, beside nothing. -/
theorem gconfC (p : Pl) (c : Cf) (s : St) (w : World) (hG : G w p c s) :
    Calls Tryz.prog 13 #[.pointer (some ⟨p.a, 0, none⟩)] w fun e w' => e = .returned (.agg #[.int .i64 (c.N : Int), .int .i64 (c.W : Int), .int .i64 (c.R : Int), .int .i64 (c.K : Int)]) ∧ Below w.heap.size w w' := gconf_any p c s w hG
theorem cfield0 (a b c d : Int) (w : World) : (Instr.field 33 (.agg #[.int .i64 a, .int .i64 b, .int .i64 c, .int .i64 d]) 0).run Tryz.prog w = .ok (.int .i64 a) w := by kernel_rfl
theorem cfield1 (a b c d : Int) (w : World) : (Instr.field 33 (.agg #[.int .i64 a, .int .i64 b, .int .i64 c, .int .i64 d]) 1).run Tryz.prog w = .ok (.int .i64 b) w := by kernel_rfl
end Go.Proofs.YtljdbaddockfcaaGreat.Pk

/-
  Chains in a ground's words: what registers and links say, and what is left of them when a block is put or taken. No program in sight.
-/
namespace Go.Proofs.YtljdbaddockfcaaGreat.Pk
open Go.RowKit
set_option linter.unusedVariables false
set_option linter.unusedSimpArgs false

theorem ext_nth {l l' : List Int} (h : l.length = l'.length) (hn : ∀ i, i < l.length → nth l i = nth l' i) : l = l' := by
  apply List.ext_getElem h
  intro i h1 h2
  have := hn i h1
  unfold nth at this
  simpa [List.getD, h1, h2] using this
/-- A list by its length and its elements. -/
def ofN (n : Nat) (f : Nat → Int) : List Int := (List.range n).map f
theorem ofN_length (n : Nat) (f : Nat → Int) : (ofN n f).length = n := by simp [ofN]
theorem ofN_nth {n : Nat} (f : Nat → Int) {i : Nat} (h : i < n) : nth (ofN n f) i = f i := by unfold nth ofN; simp [List.getD, h]
theorem eq_ofN {l : List Int} {n : Nat} {f : Nat → Int} (h : l.length = n) (hn : ∀ i, i < n → nth l i = f i) : l = ofN n f :=
  ext_nth (by rw [ofN_length, h]) (fun i hi => by rw [ofN_nth f (by omega)]; exact hn i (by omega))
/-- An element of a list one of whose elements is another one. -/
theorem nth_set {zs : List Int} {k : Nat} (hk : k < zs.length) (v : Int) (i : Nat) : nth (zs.set k v) i = if i = k then v else nth zs i := by
  by_cases h : i = k
  · subst h; rw [nth_set_eq hk, if_pos rfl]
  · rw [nth_set_ne (fun e => h e.symm), if_neg h]

/-- Where a block's Link lies. -/
def lnk (c : Cf) (b : Nat) : Nat := 24 + c.R + b * c.W + 5
theorem lnk_lt {c : Cf} {b : Nat} (hm : c.May) (hb : b < c.N) : lnk c b < c.size := wordA_lt' hb (by have := hm.w; omega)
theorem lnk_inj {c : Cf} (hm : c.May) {a b : Nat} (h : lnk c a = lnk c b) : a = b := by
  have hw := hm.w
  unfold lnk at h
  have h2 : a * c.W = b * c.W := by omega
  exact Nat.eq_of_mul_eq_mul_right (by omega) h2
theorem lnk_reg {c : Cf} {b r : Nat} (hr : r < 24) : ¬ r = lnk c b := by unfold lnk; omega
theorem lnk_reg' {c : Cf} {b r : Nat} (hr : r < 24) : ¬ lnk c b = r := by unfold lnk; omega
/-! ### What registers and links say -/
/-- A row's first one's number, and one. -/
def fstI : List Nat → Int
  | [] => 0
  | b :: _ => (b : Int) + 1
/-- A row's last one's number, and one. -/
def lstI : List Nat → Int
  | [] => 0
  | [b] => (b : Int) + 1
  | _ :: b :: t => lstI (b :: t)
theorem lstI_zero : ∀ {l : List Nat}, lstI l = 0 → l = []
  | [], _ => rfl
  | [b], h => absurd (show ((b : Int) + 1) = 0 from h) (by omega)
  | _ :: b :: t, h => absurd (lstI_zero (l := b :: t) h) (by simp)
theorem lstI_snoc : ∀ (l : List Nat) (b : Nat), lstI (l ++ [b]) = (b : Int) + 1
  | [], b => rfl
  | [a], b => rfl
  | a :: a' :: t, b => lstI_snoc (a' :: t) b
theorem lstI_mem : ∀ (l : List Nat), l ≠ [] → ∃ b, b ∈ l ∧ lstI l = (b : Int) + 1
  | [], h => absurd rfl h
  | [b], _ => ⟨b, by simp, rfl⟩
  | a :: b :: t, _ => by
    obtain ⟨x, hx, he⟩ := lstI_mem (b :: t) (by simp)
    exact ⟨x, by simp at hx ⊢; exact Or.inr hx, he⟩
theorem fstI_snoc (l : List Nat) (b : Nat) : fstI (l ++ [b]) = if l = [] then (b : Int) + 1 else fstI l := by
  cases l with
  | nil => rfl
  | cons a t => rfl
/-- Each block's Link says who is behind it. -/
def Links (c : Cf) (zs : List Int) : List Nat → Prop
  | [] => True
  | b :: t => nth zs (lnk c b) = fstI t ∧ Links c zs t
theorem Links.congr {c : Cf} {zs zs' : List Int} : ∀ {l : List Nat}, Links c zs l → (∀ b, b ∈ l → nth zs' (lnk c b) = nth zs (lnk c b)) → Links c zs' l
  | [], _, _ => trivial
  | b :: t, h, hc => ⟨by rw [hc b (by simp)]; exact h.1, Links.congr h.2 (fun x hx => hc x (by simp [hx]))⟩
theorem Links.snoc {c : Cf} {zs zs' : List Int} {b : Nat} (hb : nth zs' (lnk c b) = 0) : ∀ {l : List Nat}, Links c zs l → l.Nodup → (∀ a, a ∈ l → nth zs' (lnk c a) = if lstI l = (a : Int) + 1 then (b : Int) + 1 else nth zs (lnk c a)) → Links c zs' (l ++ [b])
  | [], _, _, _ => ⟨hb, trivial⟩
  | [a], h, _, hc => ⟨by rw [hc a (by simp), if_pos (show lstI [a] = (a : Int) + 1 from rfl)]; rfl, hb, trivial⟩
  | a :: a' :: t, h, hn, hc => by
    refine ⟨?_, Links.snoc hb (l := a' :: t) h.2 (List.nodup_cons.1 hn).2 (fun x hx => hc x (List.mem_cons_of_mem _ hx))⟩
    have hne : lstI (a :: a' :: t) ≠ (a : Int) + 1 := by
      intro e
      obtain ⟨x, hx, he⟩ := lstI_mem (a' :: t) (by simp)
      have : x = a := by have : lstI (a :: a' :: t) = (x : Int) + 1 := he; omega
      subst this
      exact (List.nodup_cons.1 hn).1 hx
    rw [hc a (by simp), if_neg hne]
    exact h.1
/-- A chain in a ground's words. -/
structure ChainAt (c : Cf) (zs : List Int) (k : Nat) (l : List Nat) : Prop where
  r0 : nth zs (3 * k) = fstI l
  r1 : nth zs (3 * k + 1) = lstI l
  r2 : nth zs (3 * k + 2) = (l.length : Int)
  lt : ∀ b, b ∈ l → b < c.N
  nd : l.Nodup
  ln : Links c zs l
theorem ChainAt.fst {c : Cf} {zs : List Int} {k b : Nat} {t : List Nat} (h : ChainAt c zs k (b :: t)) : nth zs (3 * k) = (b : Int) + 1 ∧ nth zs (lnk c b) = fstI t := ⟨h.r0, h.ln.1⟩
/-- A chain's length is below the number of blocks. -/
theorem nodup_len : ∀ {N : Nat} {l : List Nat}, l.Nodup → (∀ b, b ∈ l → b < N) → l.length ≤ N
  | 0, [], _, _ => Nat.le_refl _
  | 0, b :: t, _, hl => absurd (hl b (by simp)) (by omega)
  | N + 1, l, hn, hl => by
    by_cases h : N ∈ l
    · have h1 := nodup_len (N := N) (l := l.erase N) (hn.erase N) (fun b hb => by
        have h2 := (hn.mem_erase_iff).1 hb
        have := hl b h2.2
        have := h2.1
        omega)
      rw [List.length_erase_of_mem h] at h1
      omega
    · have h1 := nodup_len (N := N) (l := l) hn (fun b hb => by
        have := hl b hb
        have : b ≠ N := fun e => h (by rw [← e]; exact hb)
        omega)
      omega
/-- What is set elsewhere changes no chain. -/
theorem ChainAt.congr {c : Cf} {zs zs' : List Int} {k : Nat} {l : List Nat} (h : ChainAt c zs k l) (h0 : nth zs' (3 * k) = nth zs (3 * k)) (h1 : nth zs' (3 * k + 1) = nth zs (3 * k + 1)) (h2 : nth zs' (3 * k + 2) = nth zs (3 * k + 2))
    (hc : ∀ b, b ∈ l → nth zs' (lnk c b) = nth zs (lnk c b)) : ChainAt c zs' k l :=
  ⟨h0.trans h.r0, h1.trans h.r1, h2.trans h.r2, h.lt, h.nd, h.ln.congr hc⟩

/-! ### The words behind each call -/
def pushN (c : Cf) (k b : Nat) (zs : List Int) (i : Nat) : Int :=
  if i = 3 * k + 2 then nth zs (3 * k + 2) + 1 else if i = 3 * k then (b : Int) + 1 else if i = 3 * k + 1 then (if nth zs (3 * k) = 0 then (b : Int) + 1 else nth zs (3 * k + 1)) else if i = lnk c b then nth zs (3 * k) else nth zs i
def addN (c : Cf) (k b : Nat) (zs : List Int) (i : Nat) : Int :=
  if i = 3 * k + 2 then nth zs (3 * k + 2) + 1 else if i = 3 * k then (if nth zs (3 * k + 1) = 0 then (b : Int) + 1 else nth zs (3 * k)) else if i = 3 * k + 1 then (b : Int) + 1 else if i = lnk c b then 0
  else if nth zs (3 * k + 1) ≠ 0 ∧ i = lnk c (nth zs (3 * k + 1) - 1).toNat then (b : Int) + 1 else nth zs i
def takeN (c : Cf) (k b : Nat) (zs : List Int) (i : Nat) : Int :=
  if i = 3 * k + 2 then nth zs (3 * k + 2) - 1 else if i = 3 * k then nth zs (lnk c b) else if i = 3 * k + 1 then (if nth zs (lnk c b) = 0 then 0 else nth zs (3 * k + 1)) else if i = lnk c b then 0 else nth zs i
def pushZ (c : Cf) (k b : Nat) (zs : List Int) : List Int := ofN zs.length (pushN c k b zs)
def addZ (c : Cf) (k b : Nat) (zs : List Int) : List Int := ofN zs.length (addN c k b zs)
def takeZ (c : Cf) (k b : Nat) (zs : List Int) : List Int := ofN zs.length (takeN c k b zs)
theorem pushZ_length (c : Cf) (k b : Nat) (zs : List Int) : (pushZ c k b zs).length = zs.length := ofN_length _ _
theorem addZ_length (c : Cf) (k b : Nat) (zs : List Int) : (addZ c k b zs).length = zs.length := ofN_length _ _
theorem takeZ_length (c : Cf) (k b : Nat) (zs : List Int) : (takeZ c k b zs).length = zs.length := ofN_length _ _

section
variable {c : Cf} {zs : List Int} {k b : Nat} {l : List Nat}
/-- What is put ahead stands ahead. -/
theorem ChainAt.push (h : ChainAt c zs k l) (hm : c.May) (hz : zs.length = c.size) (hk : k < 2) (hb : b < c.N) (hn : b ∉ l) : ChainAt c (pushZ c k b zs) k (b :: l) := by
  have hs := hm.size
  have g : ∀ i, i < c.size → nth (pushZ c k b zs) i = pushN c k b zs i := fun i hi => ofN_nth _ (by omega)
  have gl : ∀ x, x < c.N → nth (pushZ c k b zs) (lnk c x) = if x = b then nth zs (3 * k) else nth zs (lnk c x) := fun x hx => by
    rw [g _ (lnk_lt hm hx)]
    unfold pushN
    rw [if_neg (lnk_reg' (by omega)), if_neg (lnk_reg' (by omega)), if_neg (lnk_reg' (by omega))]
    by_cases e : x = b
    · subst e; rw [if_pos rfl, if_pos rfl]
    · rw [if_neg (fun h => e (lnk_inj hm h)), if_neg e]
  refine ⟨?_, ?_, ?_, ?_, List.nodup_cons.2 ⟨hn, h.nd⟩, ?_, ?_⟩
  · rw [g _ (by omega)]; unfold pushN; rw [if_neg (by omega), if_pos rfl]; rfl
  · rw [g _ (by omega)]; unfold pushN; rw [if_neg (by omega), if_neg (by omega), if_pos rfl, h.r0, h.r1]
    cases l with
    | nil => rfl
    | cons a t => rw [if_neg (show ¬ (fstI (a :: t) = 0) from fun e => absurd (show ((a : Int) + 1) = 0 from e) (by omega))]; rfl
  · rw [g _ (by omega)]; unfold pushN; rw [if_pos rfl, h.r2]; simp
  · intro x hx
    rcases List.mem_cons.1 hx with rfl | hx
    · exact hb
    · exact h.lt x hx
  · rw [gl b hb, if_pos rfl]; exact h.r0
  · exact h.ln.congr (fun x hx => by rw [gl x (h.lt x hx), if_neg (fun e : x = b => hn (by rw [← e]; exact hx))])
/-- What is put behind stands behind. -/
theorem ChainAt.add (h : ChainAt c zs k l) (hm : c.May) (hz : zs.length = c.size) (hk : k < 2) (hb : b < c.N) (hn : b ∉ l) : ChainAt c (addZ c k b zs) k (l ++ [b]) := by
  have hs := hm.size
  have g : ∀ i, i < c.size → nth (addZ c k b zs) i = addN c k b zs i := fun i hi => ofN_nth _ (by omega)
  have gl : ∀ x, x < c.N → x ≠ b → nth (addZ c k b zs) (lnk c x) = if lstI l = (x : Int) + 1 then (b : Int) + 1 else nth zs (lnk c x) := fun x hx e => by
    rw [g _ (lnk_lt hm hx)]
    unfold addN
    rw [if_neg (lnk_reg' (by omega)), if_neg (lnk_reg' (by omega)), if_neg (lnk_reg' (by omega)), if_neg (fun h => e (lnk_inj hm h)), h.r1]
    by_cases e2 : lstI l = (x : Int) + 1
    · rw [if_pos e2, if_pos ⟨by omega, by rw [e2]; congr 1; omega⟩]
    · rw [if_neg e2, if_neg]
      rintro ⟨h1, h2⟩
      have h3 := lnk_inj hm h2
      obtain ⟨y, _, hy⟩ := lstI_mem l (fun h => h1 (by rw [h]; rfl))
      rw [hy] at h3
      exact e2 (by rw [hy]; omega)
  have gb : nth (addZ c k b zs) (lnk c b) = 0 := by
    rw [g _ (lnk_lt hm hb)]
    unfold addN
    rw [if_neg (lnk_reg' (by omega)), if_neg (lnk_reg' (by omega)), if_neg (lnk_reg' (by omega)), if_pos rfl]
  refine ⟨?_, ?_, ?_, ?_, ?_, ?_⟩
  · rw [g _ (by omega)]; unfold addN; rw [if_neg (by omega), if_pos rfl, h.r1, h.r0, fstI_snoc]
    by_cases e : l = []
    · subst e; rfl
    · rw [if_neg (fun h => e (lstI_zero h)), if_neg e]
  · rw [g _ (by omega)]; unfold addN; rw [if_neg (by omega), if_neg (by omega), if_pos rfl, lstI_snoc]
  · rw [g _ (by omega)]; unfold addN; rw [if_pos rfl, h.r2]; simp
  · intro x hx
    rcases List.mem_append.1 hx with hx | hx
    · exact h.lt x hx
    · simp at hx; subst hx; exact hb
  · rw [List.nodup_append]
    exact ⟨h.nd, by simp, fun x hx y hy => by simp at hy; subst hy; exact fun e => hn (by rw [← e]; exact hx)⟩
  · exact Links.snoc gb h.ln h.nd (fun x hx => gl x (h.lt x hx) (fun e => hn (by rw [← e]; exact hx)))
/-- What is taken is gone. -/
theorem ChainAt.take (h : ChainAt c zs k (b :: l)) (hm : c.May) (hz : zs.length = c.size) (hk : k < 2) : ChainAt c (takeZ c k b zs) k l ∧ nth (takeZ c k b zs) (lnk c b) = 0 := by
  have hs := hm.size
  have hb := h.lt b (by simp)
  have hn := (List.nodup_cons.1 h.nd).1
  have hl := h.ln.1
  have g : ∀ i, i < c.size → nth (takeZ c k b zs) i = takeN c k b zs i := fun i hi => ofN_nth _ (by omega)
  have gl : ∀ x, x < c.N → nth (takeZ c k b zs) (lnk c x) = if x = b then 0 else nth zs (lnk c x) := fun x hx => by
    rw [g _ (lnk_lt hm hx)]
    unfold takeN
    rw [if_neg (lnk_reg' (by omega)), if_neg (lnk_reg' (by omega)), if_neg (lnk_reg' (by omega))]
    by_cases e : x = b
    · subst e; rw [if_pos rfl, if_pos rfl]
    · rw [if_neg (fun h => e (lnk_inj hm h)), if_neg e]
  refine ⟨⟨?_, ?_, ?_, fun x hx => h.lt x (by simp [hx]), (List.nodup_cons.1 h.nd).2, ?_⟩, by rw [gl b hb, if_pos rfl]⟩
  · rw [g _ (by omega)]; unfold takeN; rw [if_neg (by omega), if_pos rfl]; exact hl
  · rw [g _ (by omega)]; unfold takeN; rw [if_neg (by omega), if_neg (by omega), if_pos rfl, hl, h.r1]
    cases l with
    | nil => rfl
    | cons a t => rw [if_neg (show ¬ (fstI (a :: t) = 0) from fun e => absurd (show ((a : Int) + 1) = 0 from e) (by omega))]; rfl
  · rw [g _ (by omega)]; unfold takeN; rw [if_pos rfl, h.r2]; simp
  · exact h.ln.2.congr (fun x hx => by rw [gl x (h.lt x (by simp [hx])), if_neg (fun e : x = b => hn (by rw [← e]; exact hx))])

/-! ### The other chain stays as it is -/
/-- Words stay numbers of 32 bits. -/
theorem WfZ.ofN {n : Nat} {f : Nat → Int} (h : ∀ i, i < n → 0 ≤ f i ∧ f i ≤ 4294967295) : WfZ (ofN n f) := by
  intro i
  by_cases hi : i < n
  · rw [ofN_nth f hi]; exact h i hi
  · rw [nth_out (by rw [ofN_length]; omega)]; decide
end

/-- A ground whose words are all 0 has empty chains. -/
theorem ChainAt.zero (c : Cf) (q k : Nat) : ChainAt c (List.replicate q 0) k [] := ⟨nth_rep _ _, nth_rep _ _, nth_rep _ _, fun _ h => (List.not_mem_nil h).elim, List.nodup_nil, trivial⟩

end Go.Proofs.YtljdbaddockfcaaGreat.Pk

/-
  What a function over a ground does, apart from where the ground lies: from words to words, with so many accesses.
-/
namespace Go.Proofs.YtljdbaddockfcaaGreat.Pk
open Go.RowKit
set_option linter.unusedVariables false
set_option linter.unusedSimpArgs false

/-- Called with a ground whose words are zs (and these arguments behind it), f returns v; the words are zs' then, and there were so many accesses more, the same wherever the ground lies: at most B. -/
def Acts (c : Cf) (f : FuncId) (args : List Value) (zs : List Int) (B : Nat) (zs' : List Int) (v : Value) : Prop :=
  ∃ d, d ≤ B ∧ ∀ (p : Pl) (m : Nat) (w : World), G w p c ⟨zs, m⟩ → Calls Tryz.prog f (List.toArray (.pointer (some ⟨p.a, 0, none⟩) :: args)) w (GP w p c ⟨zs', m + d⟩ v)
theorem Acts.mono {c : Cf} {f : FuncId} {args : List Value} {zs zs' : List Int} {B B' : Nat} {v : Value} (h : Acts c f args zs B zs' v) (hB : B ≤ B') : Acts c f args zs B' zs' v := by
  obtain ⟨d, hd, h⟩ := h; exact ⟨d, Nat.le_trans hd hB, h⟩
/-- Words that a ground may have. -/
structure Wz (c : Cf) (zs : List Int) : Prop where
  may : c.May
  len : zs.length = c.size
  wf : WfZ zs
theorem Grd.wz {tg ts e : TypeId} {w : World} {p : Pl} {c : Cf} {s : St} (h : Grd tg ts e w p c s) : Wz c s.zs := ⟨h.may, h.len, h.wf⟩
theorem Wz.ofN {c : Cf} {zs : List Int} (h : Wz c zs) {f : Nat → Int} (hf : ∀ i, i < zs.length → 0 ≤ f i ∧ f i ≤ 4294967295) {q : Nat} (hq : q = zs.length) : Wz c ((List.range q).map f) := by
  subst hq
  refine ⟨h.may, by simp [h.len], ?_⟩
  intro i
  by_cases hi : i < zs.length
  · unfold nth; simp [List.getD, hi]; exact hf i hi
  · rw [nth_out (by simp; omega)]; decide

theorem Grd.ofG_lt {tg ts e : TypeId} {w : World} {p : Pl} {c : Cf} {s : St} (h : Grd tg ts e w p c s) {i : Nat} (hi : ofG p i) : i < w.heap.size := by
  rcases hi with rfl | rfl | rfl
  · exact h.head.lt
  · exact h.st.head.lt
  · exact h.st.body.lt

theorem Blk.drw {w w' : World} {b : Nat} {cs : Array Value} {t : TypeId} (h : Blk w b cs t) (d : Drw w w') : Blk w' b cs t := h.later d.new
/-- A call that only looks. -/
def Looks (c : Cf) (f : FuncId) (args : List Value) (zs : List Int) (Q : World → Ending → World → Prop) : Prop :=
  ∀ (p : Pl) (m : Nat) (w : World), G w p c ⟨zs, m⟩ → Calls Tryz.prog f (List.toArray (.pointer (some ⟨p.a, 0, none⟩) :: args)) w (Q w)

end Go.Proofs.YtljdbaddockfcaaGreat.Pk

/-
  The ring in a ground's words: what registers, links and tags say, and what is left of them when a block is added or cut. No program in sight.
-/
namespace Go.Proofs.YtljdbaddockfcaaGreat.Pk
open Go.RowKit
set_option linter.unusedVariables false
set_option linter.unusedSimpArgs false

/-- A word that a right tag has. -/
def TagOk (x : Int) : Prop := RightT (uK x) (uC x) (uN x) (uS x) (uD x) (uG x) (uO x) ∧ x / 128 % 2 = 0 ∧ 0 ≤ x
/-- .. of an object's head. -/
def HeadT (x : Int) : Prop := uK x = 1 ∨ uK x = 2
theorem TagOk.pack {x : Int} (h : TagOk x) : packI (uK x) (uC x) (uN x) (uS x) (uD x) (uG x) (uO x) = x := by
  rw [pack_unpack, h.2.1]; omega
theorem TagOk.bd {x : Int} (h : TagOk x) : 0 ≤ x ∧ x ≤ 268435455 := by
  obtain ⟨⟨_, ⟨o0, o1⟩, _⟩, h7, h0⟩ := h
  unfold uO at o1
  omega
theorem uG_01 (x : Int) : uG x = 0 ∨ uG x = 1 := by unfold uG; omega
theorem uK_bd (x : Int) : 0 ≤ uK x ∧ uK x < 4 := by unfold uK; omega
theorem TagOk.free {x : Int} (h : TagOk x) (hk : ¬ HeadT x) : uG x = 0 := by
  have := uK_bd x
  unfold HeadT at hk
  exact (h.1.2.2.2.2.2.2.2.2 (by omega)).2.2.2.2
/-- A tag with the mark Ring set. -/
theorem TagOk.ring1 {x : Int} (h : TagOk x) (hk : HeadT x) (hg : uG x = 0) :
    TagOk (x + 64) ∧ packI (uK x) (uC x) (uN x) (uS x) (uD x) 1 (uO x) = x + 64 ∧ RightT (uK x) (uC x) (uN x) (uS x) (uD x) 1 (uO x) ∧ uK (x + 64) = uK x ∧ uC (x + 64) = uC x ∧ uN (x + 64) = uN x ∧ uS (x + 64) = uS x ∧ uD (x + 64) = uD x ∧ uG (x + 64) = 1 ∧ uO (x + 64) = uO x := by
  have e0 : uK (x + 64) = uK x := by unfold uK; omega
  have e1 : uC (x + 64) = uC x := by unfold uC; omega
  have e2 : uN (x + 64) = uN x := by unfold uN; omega
  have e3 : uS (x + 64) = uS x := by unfold uS; omega
  have e4 : uD (x + 64) = uD x := by unfold uD; omega
  have e5 : uG (x + 64) = 1 := by unfold uG at hg ⊢; omega
  have h7 := h.2.1
  have e6 : uO (x + 64) = uO x := by unfold uO; unfold uG at hg; omega
  have r := h.1
  have hr : RightT (uK x) (uC x) (uN x) (uS x) (uD x) 1 (uO x) := by
    unfold HeadT at hk
    exact ⟨r.1, r.2.1, r.2.2.1, r.2.2.2.1, r.2.2.2.2.1, r.2.2.2.2.2.1, r.2.2.2.2.2.2.1, by omega, fun h => by omega⟩
  refine ⟨⟨by rw [e0, e1, e2, e3, e4, e5, e6]; exact hr, by unfold uG at hg; omega, by have := h.2.2; omega⟩, ?_, hr, e0, e1, e2, e3, e4, e5, e6⟩
  have hp := h.pack
  rw [hg] at hp
  unfold packI at hp ⊢
  omega
theorem TagOk.ring0 {x : Int} (h : TagOk x) (hk : HeadT x) (hg : uG x = 1) :
    TagOk (x - 64) ∧ packI (uK x) (uC x) (uN x) (uS x) (uD x) 0 (uO x) = x - 64 ∧ RightT (uK x) (uC x) (uN x) (uS x) (uD x) 0 (uO x) ∧ uK (x - 64) = uK x ∧ uC (x - 64) = uC x ∧ uN (x - 64) = uN x ∧ uS (x - 64) = uS x ∧ uD (x - 64) = uD x ∧ uG (x - 64) = 0 ∧ uO (x - 64) = uO x := by
  have e0 : uK (x - 64) = uK x := by unfold uK; omega
  have e1 : uC (x - 64) = uC x := by unfold uC; omega
  have e2 : uN (x - 64) = uN x := by unfold uN; omega
  have e3 : uS (x - 64) = uS x := by unfold uS; omega
  have e4 : uD (x - 64) = uD x := by unfold uD; omega
  have e5 : uG (x - 64) = 0 := by unfold uG at hg ⊢; omega
  have h7 := h.2.1
  have e6 : uO (x - 64) = uO x := by unfold uO; unfold uG at hg; omega
  have r := h.1
  have hr : RightT (uK x) (uC x) (uN x) (uS x) (uD x) 0 (uO x) := by
    unfold HeadT at hk
    exact ⟨r.1, r.2.1, r.2.2.1, r.2.2.2.1, r.2.2.2.2.1, r.2.2.2.2.2.1, r.2.2.2.2.2.2.1, by omega, fun h => by omega⟩
  refine ⟨⟨by rw [e0, e1, e2, e3, e4, e5, e6]; exact hr, by unfold uG at hg; omega, by have := h.2.2; unfold uG at hg; omega⟩, ?_, hr, e0, e1, e2, e3, e4, e5, e6⟩
  have hp := h.pack
  rw [hg] at hp
  unfold packI at hp ⊢
  omega

/-! ### Rows that are linked both ways -/
def fstD : List Nat → Int → Int
  | [], z => z
  | b :: _, _ => (b : Int) + 1
def lstD : List Nat → Int → Int
  | [], a => a
  | b :: t, _ => lstD t ((b : Int) + 1)
theorem fstD_0 (l : List Nat) : fstD l 0 = fstI l := by cases l <;> rfl
theorem lstD_snoc (l : List Nat) (b : Nat) (a : Int) : lstD (l ++ [b]) a = (b : Int) + 1 := by
  induction l generalizing a with
  | nil => rfl
  | cons x t ih => exact ih _
theorem lstD_0 (l : List Nat) : lstD l 0 = lstI l := by
  rcases List.eq_nil_or_concat l with rfl | ⟨t, x, rfl⟩
  · rfl
  · rw [List.concat_eq_append, lstD_snoc, lstI_snoc]
theorem fstD_append (l1 l2 : List Nat) (z : Int) : fstD (l1 ++ l2) z = fstD l1 (fstD l2 z) := by cases l1 <;> rfl
theorem lstD_append (l1 l2 : List Nat) (a : Int) : lstD (l1 ++ l2) a = lstD l2 (lstD l1 a) := by
  induction l1 generalizing a with
  | nil => rfl
  | cons x t ih => exact ih _
/-- A row of which the first one's Prev is a, and the last one's Next z. -/
def Seg (c : Cf) (zs : List Int) : Int → List Nat → Int → Prop
  | _, [], _ => True
  | a, b :: t, z => nth zs (adr c b 6) = a ∧ nth zs (adr c b 7) = fstD t z ∧ Seg c zs ((b : Int) + 1) t z
theorem Seg.congr {c : Cf} {zs zs' : List Int} {l : List Nat} {a z : Int} (h : Seg c zs a l z) (hc : ∀ b, b ∈ l → nth zs' (adr c b 6) = nth zs (adr c b 6) ∧ nth zs' (adr c b 7) = nth zs (adr c b 7)) : Seg c zs' a l z := by
  induction l generalizing a with
  | nil => trivial
  | cons b t ih => exact ⟨by rw [(hc b (by simp)).1]; exact h.1, by rw [(hc b (by simp)).2]; exact h.2.1, ih h.2.2 (fun x hx => hc x (by simp [hx]))⟩
theorem Seg_append {c : Cf} {zs : List Int} {l1 l2 : List Nat} {a z : Int} : Seg c zs a (l1 ++ l2) z ↔ Seg c zs a l1 (fstD l2 z) ∧ Seg c zs (lstD l1 a) l2 z := by
  induction l1 generalizing a with
  | nil => exact ⟨fun h => ⟨trivial, h⟩, fun h => h.2⟩
  | cons b t ih =>
    show (nth zs (adr c b 6) = a ∧ nth zs (adr c b 7) = fstD (t ++ l2) z ∧ Seg c zs ((b : Int) + 1) (t ++ l2) z) ↔ (nth zs (adr c b 6) = a ∧ nth zs (adr c b 7) = fstD t (fstD l2 z) ∧ Seg c zs ((b : Int) + 1) t (fstD l2 z)) ∧ Seg c zs (lstD t ((b : Int) + 1)) l2 z
    rw [ih, fstD_append]
    exact ⟨fun h => ⟨⟨h.1, h.2.1, h.2.2.1⟩, h.2.2.2⟩, fun h => ⟨h.1.1, h.1.2.1, h.1.2.2, h.2⟩⟩

/-- The ring in a ground's words. -/
structure RingAt (c : Cf) (zs : List Int) (l : List Nat) : Prop where
  r7 : nth zs 7 = fstI l
  r8 : nth zs 8 = lstI l
  r9 : nth zs 9 = (l.length : Int)
  lt : ∀ b, b ∈ l → b < c.N
  nd : l.Nodup
  seg : Seg c zs 0 l 0
  tok : ∀ b, b < c.N → TagOk (nth zs (adr c b 0))
  hd : ∀ b, b ∈ l → HeadT (nth zs (adr c b 0))
  mrk : ∀ b, b < c.N → (uG (nth zs (adr c b 0)) = 1 ↔ b ∈ l)
theorem RingAt.mk0 {c : Cf} {zs : List Int} {l : List Nat} (h : RingAt c zs l) {b : Nat} (hb : b < c.N) (hn : b ∉ l) : uG (nth zs (adr c b 0)) = 0 := by
  rcases uG_01 (nth zs (adr c b 0)) with h0 | h1
  · exact h0
  · exact absurd ((h.mrk b hb).1 h1) hn
theorem RingAt.split {c : Cf} {zs : List Int} {l1 l2 : List Nat} {b : Nat} (h : RingAt c zs (l1 ++ b :: l2)) : nth zs (adr c b 6) = lstI l1 ∧ nth zs (adr c b 7) = fstI l2 := by
  have := (Seg_append.1 h.seg).2
  exact ⟨by rw [this.1, lstD_0], by rw [this.2.1, fstD_0]⟩
theorem split_of {l : List Nat} {b : Nat} (h : b ∈ l) : ∃ l1 l2, l = l1 ++ b :: l2 := List.append_of_mem h

/-! ### The words behind each call -/
def ringAddN (c : Cf) (b : Nat) (zs : List Int) (i : Nat) : Int :=
  if i = 7 then (if nth zs 8 = 0 then (b : Int) + 1 else nth zs 7) else if i = 8 then (b : Int) + 1 else if i = 9 then nth zs 9 + 1
  else if i = adr c b 0 then nth zs (adr c b 0) + 64 else if i = adr c b 6 then nth zs 8 else if i = adr c b 7 then 0
  else if nth zs 8 ≠ 0 ∧ i = adr c (nth zs 8 - 1).toNat 7 then (b : Int) + 1 else nth zs i
def ringCutN (c : Cf) (b : Nat) (zs : List Int) (i : Nat) : Int :=
  if i = 7 then (if nth zs (adr c b 6) = 0 then nth zs (adr c b 7) else nth zs 7) else if i = 8 then (if nth zs (adr c b 7) = 0 then nth zs (adr c b 6) else nth zs 8) else if i = 9 then nth zs 9 - 1
  else if i = adr c b 0 then nth zs (adr c b 0) - 64 else if i = adr c b 6 then 0 else if i = adr c b 7 then 0
  else if nth zs (adr c b 6) ≠ 0 ∧ i = adr c (nth zs (adr c b 6) - 1).toNat 7 then nth zs (adr c b 7)
  else if nth zs (adr c b 7) ≠ 0 ∧ i = adr c (nth zs (adr c b 7) - 1).toNat 6 then nth zs (adr c b 6) else nth zs i
def ringAddZ (c : Cf) (b : Nat) (zs : List Int) : List Int := ofN zs.length (ringAddN c b zs)
def ringCutZ (c : Cf) (b : Nat) (zs : List Int) : List Int := ofN zs.length (ringCutN c b zs)
theorem ringAddZ_length (c : Cf) (b : Nat) (zs : List Int) : (ringAddZ c b zs).length = zs.length := ofN_length _ _
theorem ringCutZ_length (c : Cf) (b : Nat) (zs : List Int) : (ringCutZ c b zs).length = zs.length := ofN_length _ _
theorem adr_i {c : Cf} (hm : c.May) {a b u v : Nat} (hu : u < 16) (hv : v < 16) : (adr c a u = adr c b v) ↔ (a = b ∧ u = v) := by
  have := hm.w
  exact ⟨fun h => adr_inj (by omega) (by omega) h, fun h => by rw [h.1, h.2]⟩
theorem adr_le {c : Cf} (hm : c.May) {b u : Nat} (hb : b < c.N) (hu : u < 16) : adr c b u < c.size := by
  have := hm.w
  exact adr_lt hb (by omega)

section
variable {c : Cf} {zs : List Int} {b : Nat} {l : List Nat}
theorem RingAt.add (h : RingAt c zs l) (hm : c.May) (hz : zs.length = c.size) (hb : b < c.N) (hn : b ∉ l) (hk : HeadT (nth zs (adr c b 0))) : RingAt c (ringAddZ c b zs) (l ++ [b]) := by
  have hs := hm.size
  have g : ∀ i, i < c.size → nth (ringAddZ c b zs) i = ringAddN c b zs i := fun i hi => ofN_nth _ (by omega)
  have hR : ∀ (x u r : Nat), r < 24 → ¬ adr c x u = r := fun x u r hr => adr_reg' hr
  have hR' : ∀ (x u r : Nat), r < 24 → ¬ r = adr c x u := fun x u r hr => adr_reg hr
  have g0 : ∀ x, x < c.N → nth (ringAddZ c b zs) (adr c x 0) = if x = b then nth zs (adr c b 0) + 64 else nth zs (adr c x 0) := fun x hx => by
    rw [g _ (adr_le hm hx (by omega))]
    unfold ringAddN
    simp [hR, adr_i hm]
  have g6 : ∀ x, x < c.N → nth (ringAddZ c b zs) (adr c x 6) = if x = b then nth zs 8 else nth zs (adr c x 6) := fun x hx => by
    rw [g _ (adr_le hm hx (by omega))]
    unfold ringAddN
    simp [hR, adr_i hm]
  have g7 : ∀ x, x < c.N → nth (ringAddZ c b zs) (adr c x 7) = if x = b then 0 else if nth zs 8 ≠ 0 ∧ x = (nth zs 8 - 1).toNat then (b : Int) + 1 else nth zs (adr c x 7) := fun x hx => by
    rw [g _ (adr_le hm hx (by omega))]
    unfold ringAddN
    simp [hR, adr_i hm]
  have ht := h.tok b hb
  have hg0 := h.mk0 hb hn
  obtain ⟨t1, _, _, k1, _, _, _, _, g1, _⟩ := ht.ring1 hk hg0
  refine ⟨?_, ?_, ?_, ?_, ?_, ?_, ?_, ?_, ?_⟩
  · rw [g _ (by omega)]; unfold ringAddN; rw [if_pos rfl, h.r8, h.r7, fstI_snoc]
    by_cases e : l = []
    · subst e; rfl
    · rw [if_neg (fun h => e (lstI_zero h)), if_neg e]
  · rw [g _ (by omega)]; unfold ringAddN; rw [if_neg (by omega), if_pos rfl, lstI_snoc]
  · rw [g _ (by omega)]; unfold ringAddN; rw [if_neg (by omega), if_neg (by omega), if_pos rfl, h.r9]; simp
  · intro x hx
    rcases List.mem_append.1 hx with hx | hx
    · exact h.lt x hx
    · simp at hx; subst hx; exact hb
  · rw [List.nodup_append]
    exact ⟨h.nd, by simp, fun x hx y hy => by simp at hy; subst hy; exact fun e => hn (by rw [← e]; exact hx)⟩
  · rw [Seg_append]
    refine ⟨?_, ⟨by rw [g6 b hb, if_pos rfl, h.r8, lstD_0], by rw [g7 b hb, if_pos rfl]; rfl, trivial⟩⟩
    show Seg c _ 0 l ((b : Int) + 1)
    rcases List.eq_nil_or_concat l with rfl | ⟨t, x, rfl⟩
    · trivial
    · rw [List.concat_eq_append] at h hn ⊢
      have hx := h.lt x (by simp)
      have hxb : x ≠ b := fun e => hn (by simp [e])
      have h8 : nth zs 8 = (x : Int) + 1 := by rw [h.r8, lstI_snoc]
      have hnd := List.nodup_append.1 h.nd
      obtain ⟨s1, s2, s3, _⟩ := Seg_append.1 h.seg
      rw [Seg_append]
      refine ⟨s1.congr (fun y hy => ?_), ?_, ?_, trivial⟩
      · have hyN := h.lt y (by simp [hy])
        have hyb : y ≠ b := fun e => hn (by simp [← e, hy])
        have hyx : y ≠ x := fun e => hnd.2.2 y hy x (by simp) e
        rw [g6 y hyN, if_neg hyb, g7 y hyN, if_neg hyb, h8, if_neg (by omega)]
        exact ⟨rfl, rfl⟩
      · rw [g6 x hx, if_neg hxb]; exact s2
      · rw [g7 x hx, if_neg hxb, h8, if_pos ⟨by omega, by omega⟩]; rfl
  · intro x hx
    rw [g0 x hx]
    by_cases e : x = b
    · rw [if_pos e]; exact t1
    · rw [if_neg e]; exact h.tok x hx
  · intro x hx
    rcases List.mem_append.1 hx with hx | hx
    · have : x ≠ b := fun e => hn (by rw [← e]; exact hx)
      rw [g0 x (h.lt x hx), if_neg this]; exact h.hd x hx
    · simp at hx; subst hx
      rw [g0 x hb, if_pos rfl]; unfold HeadT at hk ⊢; rw [k1]; exact hk
  · intro x hx
    rw [g0 x hx]
    by_cases e : x = b
    · rw [if_pos e, g1]; simp [e]
    · rw [if_neg e, h.mrk x hx]; simp [e]

/-- What is cut is gone, the others keep their order. -/
theorem RingAt.cut {l1 l2 : List Nat} (h : RingAt c zs (l1 ++ b :: l2)) (hm : c.May) (hz : zs.length = c.size) : RingAt c (ringCutZ c b zs) (l1 ++ l2) := by
  have hs := hm.size
  have hb := h.lt b (by simp)
  have g : ∀ i, i < c.size → nth (ringCutZ c b zs) i = ringCutN c b zs i := fun i hi => ofN_nth _ (by omega)
  have hR : ∀ (x u r : Nat), r < 24 → ¬ adr c x u = r := fun x u r hr => adr_reg' hr
  obtain ⟨hp, hq⟩ := h.split
  have g0 : ∀ x, x < c.N → nth (ringCutZ c b zs) (adr c x 0) = if x = b then nth zs (adr c b 0) - 64 else nth zs (adr c x 0) := fun x hx => by
    rw [g _ (adr_le hm hx (by omega))]
    unfold ringCutN
    simp [hR, adr_i hm]
  have g6 : ∀ x, x < c.N → nth (ringCutZ c b zs) (adr c x 6) = if x = b then 0 else if fstI l2 ≠ 0 ∧ x = (fstI l2 - 1).toNat then lstI l1 else nth zs (adr c x 6) := fun x hx => by
    rw [g _ (adr_le hm hx (by omega))]
    unfold ringCutN
    rw [hp, hq]
    simp [hR, adr_i hm]
  have g7 : ∀ x, x < c.N → nth (ringCutZ c b zs) (adr c x 7) = if x = b then 0 else if lstI l1 ≠ 0 ∧ x = (lstI l1 - 1).toNat then fstI l2 else nth zs (adr c x 7) := fun x hx => by
    rw [g _ (adr_le hm hx (by omega))]
    unfold ringCutN
    rw [hp, hq]
    simp [hR, adr_i hm]
  have ht := h.tok b hb
  have hg1 := (h.mrk b hb).2 (by simp)
  obtain ⟨t1, _, _, k1, _, _, _, _, g1, _⟩ := ht.ring0 (h.hd b (by simp)) hg1
  have hnd := h.nd
  rw [List.nodup_append] at hnd
  obtain ⟨n1, n2, n3⟩ := hnd
  obtain ⟨n4, n5⟩ := List.nodup_cons.1 n2
  have hb1 : b ∉ l1 := fun hx => n3 b hx b (by simp) rfl
  have n6 : ∀ x, x ∈ l1 → x ∉ l2 := fun x hx hy => n3 x hx x (by simp [hy]) rfl
  have hmem : ∀ x, x ∈ l1 ++ l2 → x ∈ l1 ++ b :: l2 := fun x hx => by
    rcases List.mem_append.1 hx with hx | hx
    · simp [hx]
    · simp [hx]
  have hne : ∀ x, x ∈ l1 ++ l2 → x ≠ b := fun x hx e => by
    rcases List.mem_append.1 hx with hx | hx
    · exact hb1 (by rw [← e]; exact hx)
    · exact n4 (by rw [← e]; exact hx)
  obtain ⟨s1, s2⟩ := Seg_append.1 h.seg
  obtain ⟨s3, s4, s5⟩ := s2
  have hf2 : ∀ x, fstI l2 ≠ 0 ∧ x = (fstI l2 - 1).toNat → x ∈ l2 := by
    rintro x ⟨h1, h2⟩
    cases l2 with
    | nil => exact absurd rfl h1
    | cons y t => have : fstI (y :: t) = (y : Int) + 1 := rfl
                  rw [this] at h2
                  have : x = y := by omega
                  rw [this]; simp
  have hl1 : ∀ x, lstI l1 ≠ 0 ∧ x = (lstI l1 - 1).toNat → x ∈ l1 := by
    rintro x ⟨h1, h2⟩
    obtain ⟨y, hy, he⟩ := lstI_mem l1 (fun e => h1 (by rw [e]; rfl))
    rw [he] at h2
    have : x = y := by omega
    rw [this]; exact hy
  refine ⟨?_, ?_, ?_, ?_, ?_, ?_, ?_, ?_, ?_⟩
  · rw [g _ (by omega)]; unfold ringCutN; rw [if_pos rfl, hp, hq, h.r7]
    cases l1 with
    | nil => rfl
    | cons x t => rw [if_neg (fun e => absurd (lstI_zero e) (by simp))]; rfl
  · rw [g _ (by omega)]; unfold ringCutN; rw [if_neg (by omega), if_pos rfl, hp, hq, h.r8, ← lstD_0, ← lstD_0, ← lstD_0, lstD_append, lstD_append]
    cases l2 with
    | nil => rfl
    | cons y t => rw [if_neg (show ¬ (fstI (y :: t) = 0) from fun e => absurd (show ((y : Int) + 1) = 0 from e) (by omega))]; rfl
  · rw [g _ (by omega)]; unfold ringCutN; rw [if_neg (by omega), if_neg (by omega), if_pos rfl, h.r9]; simp; omega
  · intro x hx; exact h.lt x (hmem x hx)
  · rw [List.nodup_append]
    exact ⟨n1, n5, fun x hx y hy e => n6 x hx (by rw [e]; exact hy)⟩
  · rw [Seg_append]
    constructor
    · rw [fstD_0]
      rcases List.eq_nil_or_concat l1 with rfl | ⟨t, x, rfl⟩
      · trivial
      · rw [List.concat_eq_append] at *
        have hx := h.lt x (by simp)
        have hxb := hne x (by simp)
        have hl : lstI (t ++ [x]) = (x : Int) + 1 := lstI_snoc t x
        have hnt := List.nodup_append.1 n1
        rw [Seg_append] at s1 ⊢
        obtain ⟨u1, u2, u3, _⟩ := s1
        refine ⟨u1.congr (fun y hy => ?_), ?_, ?_, trivial⟩
        · have hyN := h.lt y (by simp [hy])
          have hyb := hne y (by simp [hy])
          have hyx : y ≠ x := fun e => hnt.2.2 y hy x (by simp) e
          rw [g6 y hyN, if_neg hyb, if_neg (fun e => n6 y (by simp [hy]) (hf2 y e)), g7 y hyN, if_neg hyb, hl, if_neg (by omega)]
          exact ⟨rfl, rfl⟩
        · rw [g6 x hx, if_neg hxb, if_neg (fun e => n6 x (by simp) (hf2 x e))]; exact u2
        · rw [g7 x hx, if_neg hxb, hl, if_pos ⟨by omega, by omega⟩]; rfl
    · cases l2 with
      | nil => trivial
      | cons y t =>
        have hy := h.lt y (by simp)
        have hyb := hne y (by simp)
        have hy1 : y ∉ l1 := fun e => n6 y e (by simp)
        obtain ⟨v1, v2, v3⟩ := s5
        have hnt := List.nodup_cons.1 n5
        have hf : fstI (y :: t) = (y : Int) + 1 := rfl
        refine ⟨?_, ?_, v3.congr (fun x hx => ?_)⟩
        · rw [g6 y hy, if_neg hyb, hf, if_pos ⟨by omega, by omega⟩, lstD_0]
        · rw [g7 y hy, if_neg hyb, if_neg (fun e => hy1 (hl1 y e))]; exact v2
        · have hxN := h.lt x (by simp [hx])
          have hxb := hne x (by simp [hx])
          have hxy : x ≠ y := fun e => hnt.1 (by rw [← e]; exact hx)
          rw [g6 x hxN, if_neg hxb, hf, if_neg (by omega), g7 x hxN, if_neg hxb, if_neg (fun e => n6 x (hl1 x e) (by simp [hx]))]
          exact ⟨rfl, rfl⟩
  · intro x hx
    rw [g0 x hx]
    by_cases e : x = b
    · rw [if_pos e]; exact t1
    · rw [if_neg e]; exact h.tok x hx
  · intro x hx
    rw [g0 x (h.lt x (hmem x hx)), if_neg (hne x hx)]; exact h.hd x (hmem x hx)
  · intro x hx
    rw [g0 x hx]
    by_cases e : x = b
    · rw [if_pos e, g1, e]
      exact ⟨fun h => absurd h (by decide), fun h => absurd rfl (hne b h)⟩
    · rw [if_neg e, h.mrk x hx]; simp [e]

/-! ### What is left as it was -/
theorem ringAdd_tag (hm : c.May) (hz : zs.length = c.size) {x : Nat} (hx : x < c.N) : nth (ringAddZ c b zs) (adr c x 0) = if x = b then nth zs (adr c b 0) + 64 else nth zs (adr c x 0) := by
  have hR : ∀ (x u r : Nat), r < 24 → ¬ adr c x u = r := fun x u r hr => adr_reg' hr
  rw [show nth (ringAddZ c b zs) (adr c x 0) = ringAddN c b zs (adr c x 0) from ofN_nth _ (by rw [hz]; exact adr_le hm hx (by omega))]
  unfold ringAddN
  simp [hR, adr_i hm]
theorem ringCut_tag (hm : c.May) (hz : zs.length = c.size) {x : Nat} (hx : x < c.N) : nth (ringCutZ c b zs) (adr c x 0) = if x = b then nth zs (adr c b 0) - 64 else nth zs (adr c x 0) := by
  have hR : ∀ (x u r : Nat), r < 24 → ¬ adr c x u = r := fun x u r hr => adr_reg' hr
  rw [show nth (ringCutZ c b zs) (adr c x 0) = ringCutN c b zs (adr c x 0) from ofN_nth _ (by rw [hz]; exact adr_le hm hx (by omega))]
  unfold ringCutN
  simp [hR, adr_i hm]
/-- A word that is none of the ring's: no register of its, no tag or link of b or of a block that stands in it. -/
def RingOut (c : Cf) (l : List Nat) (b i : Nat) : Prop := i ≠ 7 ∧ i ≠ 8 ∧ i ≠ 9 ∧ i ≠ adr c b 0 ∧ ∀ x, (x = b ∨ x ∈ l) → i ≠ adr c x 6 ∧ i ≠ adr c x 7
theorem ringAdd_out (h : RingAt c zs l) (hz : zs.length = c.size) {i : Nat} (hi : RingOut c l b i) : nth (ringAddZ c b zs) i = nth zs i := by
  obtain ⟨h7, h8, h9, h0, hx⟩ := hi
  by_cases hlt : i < zs.length
  · rw [show nth (ringAddZ c b zs) i = ringAddN c b zs i from ofN_nth _ hlt]
    unfold ringAddN
    rw [if_neg h7, if_neg h8, if_neg h9, if_neg h0, if_neg (hx b (Or.inl rfl)).1, if_neg (hx b (Or.inl rfl)).2, if_neg]
    rintro ⟨e1, e2⟩
    rw [h.r8] at e1 e2
    obtain ⟨y, hy, he⟩ := lstI_mem l (fun e => e1 (by rw [e]; rfl))
    rw [he] at e2
    exact (hx y (Or.inr hy)).2 (by rw [e2]; congr 1; omega)
  · rw [nth_out (by rw [ringAddZ_length]; omega), nth_out (by omega)]
theorem ringCut_out {l1 l2 : List Nat} (h : RingAt c zs (l1 ++ b :: l2)) (hz : zs.length = c.size) {i : Nat} (hi : RingOut c (l1 ++ l2) b i) : nth (ringCutZ c b zs) i = nth zs i := by
  obtain ⟨h7, h8, h9, h0, hx⟩ := hi
  obtain ⟨hp, hq⟩ := h.split
  by_cases hlt : i < zs.length
  · rw [show nth (ringCutZ c b zs) i = ringCutN c b zs i from ofN_nth _ hlt]
    unfold ringCutN
    rw [if_neg h7, if_neg h8, if_neg h9, if_neg h0, if_neg (hx b (Or.inl rfl)).1, if_neg (hx b (Or.inl rfl)).2, hp, hq, if_neg, if_neg]
    · rintro ⟨e1, e2⟩
      cases l2 with
      | nil => exact e1 rfl
      | cons y t =>
        have : fstI (y :: t) = (y : Int) + 1 := rfl
        rw [this] at e2
        exact (hx y (Or.inr (by simp))).1 (by rw [e2]; congr 1; omega)
    · rintro ⟨e1, e2⟩
      obtain ⟨y, hy, he⟩ := lstI_mem l1 (fun e => e1 (by rw [e]; rfl))
      rw [he] at e2
      exact (hx y (Or.inr (by simp [hy]))).2 (by rw [e2]; congr 1; omega)
  · rw [nth_out (by rw [ringCutZ_length]; omega), nth_out (by omega)]
theorem ringCut_own (hm : c.May) (hz : zs.length = c.size) (hb : b < c.N) : nth (ringCutZ c b zs) (adr c b 6) = 0 ∧ nth (ringCutZ c b zs) (adr c b 7) = 0 := by
  have hR : ∀ (x u r : Nat), r < 24 → ¬ adr c x u = r := fun x u r hr => adr_reg' hr
  rw [show nth (ringCutZ c b zs) (adr c b 6) = ringCutN c b zs (adr c b 6) from ofN_nth _ (by rw [hz]; exact adr_le hm hb (by omega)), show nth (ringCutZ c b zs) (adr c b 7) = ringCutN c b zs (adr c b 7) from ofN_nth _ (by rw [hz]; exact adr_le hm hb (by omega))]
  unfold ringCutN
  simp [hR, adr_i hm]
end

end Go.Proofs.YtljdbaddockfcaaGreat.Pk

/-
  The pool in a ground's words: which blocks are clean, and what is left when one is taken or given. No program in sight.
-/
namespace Go.Proofs.YtljdbaddockfcaaGreat.Pk
open Go.RowKit
set_option linter.unusedVariables false
set_option linter.unusedSimpArgs false

/-- The pool stands as the row says, and all that stand there are clean. -/
structure PoolAt (c : Cf) (zs : List Int) (l : List Nat) : Prop where
  ch : ChainAt c zs 0 l
  fr : ∀ b, b ∈ l → nth zs (adr c b 0) = 0
/-- A word of the block b. -/
def inBlk (c : Cf) (b i : Nat) : Prop := adr c b 0 ≤ i ∧ i < adr c b 0 + c.W
theorem inBlk_adr {c : Cf} {b v : Nat} (hv : v < c.W) : inBlk c b (adr c b v) := by unfold inBlk adr; omega
theorem inBlk_of {c : Cf} {b i : Nat} (h : inBlk c b i) : ∃ v, v < c.W ∧ i = adr c b v := ⟨i - adr c b 0, by unfold inBlk at h; omega, by unfold inBlk at h; unfold adr at *; omega⟩
theorem inBlk_reg {c : Cf} {b r : Nat} (hr : r < 24) : ¬ inBlk c b r := by unfold inBlk adr; omega
theorem inBlk_ne {c : Cf} {a b v : Nat} (h : a ≠ b) (hv : v < c.W) : ¬ inBlk c b (adr c a v) := by
  intro hb
  obtain ⟨u, hu, e⟩ := inBlk_of hb
  exact h (adr_inj hv hu e).1
theorem lnk_adr (c : Cf) (b : Nat) : lnk c b = adr c b 5 := rfl
instance (c : Cf) (b i : Nat) : Decidable (inBlk c b i) := by unfold inBlk; infer_instance

/-- Nothing but words of the block b is another one. -/
def BlkOnly (c : Cf) (b : Nat) (zs zs' : List Int) : Prop := zs'.length = zs.length ∧ ∀ i, ¬ inBlk c b i → nth zs' i = nth zs i
theorem BlkOnly.refl (c : Cf) (b : Nat) (zs : List Int) : BlkOnly c b zs zs := ⟨rfl, fun _ _ => rfl⟩
theorem BlkOnly.trans {c : Cf} {b : Nat} {x y z : List Int} (h : BlkOnly c b x y) (k : BlkOnly c b y z) : BlkOnly c b x z := ⟨k.1.trans h.1, fun i hi => (k.2 i hi).trans (h.2 i hi)⟩
theorem BlkOnly.set {c : Cf} {b v : Nat} {zs : List Int} (hv : v < c.W) (x : Int) : BlkOnly c b zs (zs.set (adr c b v) x) :=
  ⟨by simp, fun i hi => nth_set_ne (fun e => hi (by rw [← e]; exact inBlk_adr hv)) x⟩
theorem ChainAt.only {c : Cf} {zs zs' : List Int} {k b : Nat} {l : List Nat} (h : ChainAt c zs k l) (hm : c.May) (hk : k < 2) (hb : b ∉ l) (ho : BlkOnly c b zs zs') : ChainAt c zs' k l := by
  have hw := hm.w
  refine h.congr (ho.2 _ (inBlk_reg (by omega))) (ho.2 _ (inBlk_reg (by omega))) (ho.2 _ (inBlk_reg (by omega))) (fun x hx => ho.2 _ ?_)
  rw [lnk_adr]
  exact inBlk_ne (fun e => hb (by rw [← e]; exact hx)) (by omega)
theorem PoolAt.only {c : Cf} {zs zs' : List Int} {b : Nat} {l : List Nat} (h : PoolAt c zs l) (hm : c.May) (hb : b ∉ l) (ho : BlkOnly c b zs zs') : PoolAt c zs' l := by
  have hw := hm.w
  refine ⟨h.ch.only hm (by omega) hb ho, fun x hx => ?_⟩
  rw [ho.2 _ (inBlk_ne (fun e => hb (by rw [← e]; exact hx)) (by omega))]
  exact h.fr x hx

/-! ### The words behind each call -/
def poolTakeN (c : Cf) (b : Nat) (zs : List Int) (i : Nat) : Int := if inBlk c b i then 0 else takeN c 0 b zs i
def poolTakeZ (c : Cf) (b : Nat) (zs : List Int) : List Int := ofN zs.length (poolTakeN c b zs)
def poolGiveZ (c : Cf) (b : Nat) (zs : List Int) : List Int := pushZ c 0 b (zs.set (adr c b 0) 0)
theorem poolTakeZ_length (c : Cf) (b : Nat) (zs : List Int) : (poolTakeZ c b zs).length = zs.length := ofN_length _ _
theorem poolGiveZ_length (c : Cf) (b : Nat) (zs : List Int) : (poolGiveZ c b zs).length = zs.length := by unfold poolGiveZ; rw [pushZ_length]; simp
/-- A heap's new pool. -/
def Opened (c : Cf) (zs : List Int) : Prop := PoolAt c zs (List.range c.N) ∧ ∀ i, ¬ i < 3 → (∀ b, b < c.N → i ≠ adr c b 5) → nth zs i = 0

section
variable {c : Cf} {zs : List Int} {b : Nat} {l : List Nat}
theorem poolTake_nth (hz : zs.length = c.size) {i : Nat} (hi : i < c.size) : nth (poolTakeZ c b zs) i = if inBlk c b i then 0 else nth (takeZ c 0 b zs) i := by
  rw [show nth (poolTakeZ c b zs) i = poolTakeN c b zs i from ofN_nth _ (by omega), show nth (takeZ c 0 b zs) i = takeN c 0 b zs i from ofN_nth _ (by omega)]
  rfl
theorem poolTake_only (hz : zs.length = c.size) : BlkOnly c b (takeZ c 0 b zs) (poolTakeZ c b zs) := by
  refine ⟨by rw [poolTakeZ_length, takeZ_length], fun i hi => ?_⟩
  by_cases h : i < c.size
  · rw [poolTake_nth hz h, if_neg hi]
  · rw [nth_out (by rw [poolTakeZ_length]; omega), nth_out (by rw [takeZ_length]; omega)]
/-- What is taken is there no more, and wiped. -/
theorem PoolAt.take (h : PoolAt c zs (b :: l)) (hm : c.May) (hz : zs.length = c.size) : PoolAt c (poolTakeZ c b zs) l ∧ ∀ v, v < c.W → nth (poolTakeZ c b zs) (adr c b v) = 0 := by
  have hb := h.ch.lt b (by simp)
  have hn := (List.nodup_cons.1 h.ch.nd).1
  have hw := hm.w
  obtain ⟨h1, _⟩ := h.ch.take hm hz (by omega)
  refine ⟨⟨h1.only hm (by omega) hn (poolTake_only hz), fun x hx => ?_⟩, fun v hv => ?_⟩
  · have hxb : x ≠ b := fun e => hn (by rw [← e]; exact hx)
    have hxN := h.ch.lt x (by simp [hx])
    rw [(poolTake_only hz).2 _ (inBlk_ne hxb (by omega))]
    rw [show nth (takeZ c 0 b zs) (adr c x 0) = takeN c 0 b zs (adr c x 0) from ofN_nth _ (by rw [hz]; exact adr_lt hxN (by omega))]
    unfold takeN
    rw [if_neg (adr_reg' (by omega)), if_neg (adr_reg' (by omega)), if_neg (adr_reg' (by omega)), if_neg (by rw [lnk_adr, adr_i hm (by omega) (by omega)]; omega)]
    exact h.fr x (by simp [hx])
  · rw [poolTake_nth hz (adr_lt hb hv), if_pos (inBlk_adr hv)]
/-- What is left but for the registers of the chain, and the block. -/
theorem poolTake_out (hm : c.May) (hz : zs.length = c.size) {i : Nat} (hi : ¬ inBlk c b i) (h3 : ¬ i < 3) : nth (poolTakeZ c b zs) i = nth zs i := by
  rw [(poolTake_only hz).2 i hi]
  by_cases h : i < c.size
  · rw [show nth (takeZ c 0 b zs) i = takeN c 0 b zs i from ofN_nth _ (by omega)]
    unfold takeN
    have hw := hm.w
    rw [if_neg (by omega), if_neg (by omega), if_neg (by omega), if_neg (fun e => hi (by rw [e, lnk_adr]; exact inBlk_adr (by omega)))]
  · rw [nth_out (by rw [takeZ_length]; omega), nth_out (by omega)]
theorem PoolAt.give (h : PoolAt c zs l) (hm : c.May) (hz : zs.length = c.size) (hb : b < c.N) (hn : b ∉ l) : PoolAt c (poolGiveZ c b zs) (b :: l) ∧ nth (poolGiveZ c b zs) (adr c b 0) = 0 := by
  have hw := hm.w
  have h1 := h.only hm hn (BlkOnly.set (v := 0) (by omega) 0)
  have hz1 : (zs.set (adr c b 0) 0).length = c.size := by simp [hz]
  have g : ∀ x, x < c.N → nth (poolGiveZ c b zs) (adr c x 0) = nth (zs.set (adr c b 0) 0) (adr c x 0) := fun x hx => by
    unfold poolGiveZ
    rw [show nth (pushZ c 0 b (zs.set (adr c b 0) 0)) (adr c x 0) = pushN c 0 b (zs.set (adr c b 0) 0) (adr c x 0) from ofN_nth _ (by rw [hz1]; exact adr_lt hx (by omega))]
    unfold pushN
    rw [if_neg (adr_reg' (by omega)), if_neg (adr_reg' (by omega)), if_neg (adr_reg' (by omega)), if_neg (by rw [lnk_adr, adr_i hm (by omega) (by omega)]; omega)]
  have hb0 : nth (poolGiveZ c b zs) (adr c b 0) = 0 := by rw [g b hb, nth_set_eq (by rw [hz]; exact adr_lt hb (by omega))]
  refine ⟨⟨h1.ch.push hm hz1 (by omega) hb hn, fun x hx => ?_⟩, hb0⟩
  rcases List.mem_cons.1 hx with rfl | hx
  · exact hb0
  · rw [g x (h.ch.lt x hx)]; exact h1.fr x hx
theorem poolGive_out (hm : c.May) (hz : zs.length = c.size) {i : Nat} (hi : i ≠ adr c b 0) (h5 : i ≠ adr c b 5) (h3 : ¬ i < 3) : nth (poolGiveZ c b zs) i = nth zs i := by
  unfold poolGiveZ
  by_cases h : i < c.size
  · rw [show nth (pushZ c 0 b (zs.set (adr c b 0) 0)) i = pushN c 0 b (zs.set (adr c b 0) 0) i from ofN_nth _ (by simp; omega)]
    unfold pushN
    rw [if_neg (by omega), if_neg (by omega), if_neg (by omega), if_neg (show ¬ i = lnk c b from h5), nth_set_ne (fun e => hi e.symm)]
  · rw [nth_out (by rw [pushZ_length]; simp; omega), nth_out (by omega)]
end

end Go.Proofs.YtljdbaddockfcaaGreat.Pk

/-
  What stands in a block's tag; nothing where there is no block.
-/
namespace Go.Proofs.YtljdbaddockfcaaGreat.Pk
open Go.RowKit
set_option linter.unusedVariables false
set_option linter.unusedSimpArgs false

def askN (o : Option Nat) : Nat := match o with | some _ => 1 | none => 0
theorem St.ask_eq (s : St) (o : Option Nat) : s.ask o = ⟨s.zs, s.m + askN o⟩ := by cases o <;> rfl
theorem askN_le (o : Option Nat) : askN o ≤ 1 := by cases o <;> simp [askN]
/-- What stands in a block's tag, 0 where there is no block. -/
def tagI (c : Cf) (zs : List Int) (b : Int) : Int := (⟨zs, 0⟩ : St).at? (wordA c b 0)
theorem tagI_out {c : Cf} {zs : List Int} {b : Int} (h : ¬ (0 ≤ b ∧ b < (c.N : Int))) : tagI c zs b = 0 := by
  unfold tagI wordA bel
  rw [decide_eq_false h]; rfl
theorem tagI_in {c : Cf} {zs : List Int} {b : Nat} (hm : c.May) (h : b < c.N) : tagI c zs (b : Int) = nth zs (adr c b 0) := by
  unfold tagI
  have := adr_word (c := c) (b := b) (v := 0) h (by have := hm.w; omega)
  rw [show ((0 : Nat) : Int) = 0 from rfl] at this
  rw [this]; rfl
theorem wordTag (p : Pl) (c : Cf) (s : St) (b t : Int) (w : World) (hG : G w p c s) (ht : tagI c s.zs b = t) :
    Calls Tryz.prog 61 #[.pointer (some ⟨p.a, 0, none⟩), .int .i64 b, .int .i64 0] w (GP w p c ⟨s.zs, s.m + askN (wordA c b 0)⟩ (.int .u32 t)) := by
  subst ht
  have h := word_any p c s b 0 w hG
  rw [s.ask_eq] at h
  exact h
theorem tagI_bd {w : World} {p : Pl} {c : Cf} {s : St} (hG : G w p c s) (b : Int) : 0 ≤ tagI c s.zs b ∧ tagI c s.zs b ≤ 4294967295 := St.at?_wf (s := ⟨s.zs, 0⟩) hG.wf _

end Go.Proofs.YtljdbaddockfcaaGreat.Pk
