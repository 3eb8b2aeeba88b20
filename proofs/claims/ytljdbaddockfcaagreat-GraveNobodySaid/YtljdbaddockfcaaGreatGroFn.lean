/-
  Grd: A ground in memory: a store, and beside it the configuration it was made of. Its words as a list; its meter as the number of accesses.
  Ground: The program's ground.
  Ground2: The program's ground: whole blocks, all words, the meter, the configuration; new ones.
  GAt: A ground's calls at places that there are: registers, root slots and words whose numbers are known to be right.
-/
import Derived.Test.YtljdbaddockfcaaGreatStoFn
import Derived.Test.YtljdbaddockfcaaGreatNumMath
import Derived.Test.YtljdbaddockfcaaGreatPlanFn
import Derived.BigQuiet
import Derived.IntWalk
import Derived.LoopTactic

namespace Go.Proofs.YtljdbaddockfcaaGreat.Pk
open Go.RowKit
set_option linter.unusedVariables false
set_option linter.unusedSimpArgs false

theorem bne_of' {a b : Int} (h : a ≠ b) : (a == b) = false := by rw [beq_eq_false_iff_ne]; exact h
theorem blk_row' {w : World} {q : Nat} {e : TypeId} {zs : List Int} (h : Blk w q (words zs) e) : Row w .u32 (some ⟨q, 0, none⟩) zs := fun i hi =>
  ⟨q, 0, rfl, h.lt, by rw [Nat.zero_add]; exact h.cell i (words_get hi)⟩

/-- A configuration's numbers. -/
structure Cf where
  N : Nat
  W : Nat
  R : Nat
  K : Nat
def Cf.May (c : Cf) : Prop := Pk.May (c.N : Int) (c.W : Int) (c.R : Int) (c.K : Int)
def Cf.size (c : Cf) : Nat := 24 + c.R + c.N * c.W
def Cf.val (c : Cf) : Value := .agg #[.int .i64 (c.N : Int), .int .i64 (c.W : Int), .int .i64 (c.R : Int), .int .i64 (c.K : Int)]
theorem Cf.May.nw {c : Cf} (h : c.May) : 16 ≤ c.N * c.W ∧ c.N * c.W ≤ 4194304 := by
  obtain ⟨h1, h2⟩ := nw_bd h
  have e : ((c.N * c.W : Nat) : Int) = (c.N : Int) * (c.W : Int) := Int.natCast_mul _ _
  omega
theorem Cf.May.n {c : Cf} (h : c.May) : 1 ≤ c.N ∧ c.N ≤ 1048576 := by have := h.n0; have := h.n1; omega
theorem Cf.May.w {c : Cf} (h : c.May) : 16 ≤ c.W ∧ c.W ≤ 256 := by have := h.w0; have := h.w1; omega
theorem Cf.May.r {c : Cf} (h : c.May) : 1 ≤ c.R ∧ c.R ≤ 4096 := by have := h.r0; have := h.r1; omega
theorem Cf.May.k {c : Cf} (h : c.May) : 1 ≤ c.K ∧ c.K ≤ 65536 := by have := h.k0; have := h.k1; omega
theorem Cf.May.size {c : Cf} (h : c.May) : 41 ≤ c.size ∧ c.size ≤ 4198424 := by
  have := h.nw; have := h.r; unfold Cf.size; omega

/-- Where a ground lies: its own block, its store's, its words'. -/
structure Pl where
  a : Nat
  s : Nat
  g : Nat

/-- What a ground holds: its words, and how many accesses there were. -/
structure St where
  zs : List Int
  m : Nat

/-- Words are numbers of 32 bits. -/
def WfZ (zs : List Int) : Prop := ∀ k, 0 ≤ nth zs k ∧ nth zs k ≤ 4294967295
theorem nth_set_eq {zs : List Int} {k : Nat} (hk : k < zs.length) (v : Int) : nth (zs.set k v) k = v := by unfold nth; simp [List.getD, hk]
theorem nth_set_ne {zs : List Int} {k j : Nat} (h : k ≠ j) (v : Int) : nth (zs.set k v) j = nth zs j := by unfold nth; simp [List.getD, h]
theorem nth_out {zs : List Int} {k : Nat} (hk : zs.length ≤ k) : nth zs k = 0 := by unfold nth; simp [List.getD, hk]
theorem nth_rep (q k : Nat) : nth (List.replicate q 0) k = 0 := by
  unfold nth
  rw [List.getD_eq_getElem?_getD, List.getElem?_replicate]
  split <;> rfl
theorem WfZ.set {zs : List Int} (h : WfZ zs) (k : Nat) {v : Int} (h0 : 0 ≤ v) (h1 : v ≤ 4294967295) : WfZ (zs.set k v) := by
  intro j
  by_cases e : k = j
  · subst e
    by_cases hk : k < zs.length
    · rw [nth_set_eq hk]; exact ⟨h0, h1⟩
    · rw [nth_out (by simp; omega)]; omega
  · rw [nth_set_ne e]; exact h j
theorem WfZ.rep (q : Nat) : WfZ (List.replicate q 0) := fun k => by rw [nth_rep]; omega

/-- The ground at p, of the configuration c, with the words and accesses s. tg, ts, e: the types. -/
structure Grd (tg ts e : TypeId) (w : World) (p : Pl) (c : Cf) (s : St) : Prop where
  head : Blk w p.a #[.pointer (some ⟨p.s, 0, none⟩), .int .i64 (c.N : Int), .int .i64 (c.W : Int), .int .i64 (c.R : Int), .int .i64 (c.K : Int)] tg
  st : Sto w ts e p.s p.g s.zs (u64m s.m)
  len : s.zs.length = c.size
  as_ : p.a ≠ p.s
  ag : p.a ≠ p.g
  may : c.May
  wf : WfZ s.zs
/-- The ground's blocks that calls may change. -/
def inG (p : Pl) : Nat → Prop := inSto p.s p.g
/-- .. and all its blocks. -/
def ofG (p : Pl) : Nat → Prop := fun k => k = p.a ∨ inSto p.s p.g k

theorem Grd.touch {tg ts e : TypeId} {X : Nat → Prop} {w w' : World} {p : Pl} {c : Cf} {s : St} (h : Grd tg ts e w p c s) (k : Touch X w w') (hX : ∀ b, ofG p b → ¬ X b) : Grd tg ts e w' p c s :=
  ⟨h.head.touch k (hX _ (.inl rfl)), h.st.touch k (hX _ (.inr (.inl rfl))) (hX _ (.inr (.inr rfl))), h.len, h.as_, h.ag, h.may, h.wf⟩
theorem Grd.later {tg ts e : TypeId} {w w' : World} {p : Pl} {c : Cf} {s : St} (h : Grd tg ts e w p c s) (k : Below w.heap.size w w') : Grd tg ts e w' p c s :=
  ⟨h.head.later k, h.st.later k, h.len, h.as_, h.ag, h.may, h.wf⟩
theorem Grd.drew {tg ts e : TypeId} {w : World} {p : Pl} {c : Cf} {s : St} (h : Grd tg ts e w p c s) : Grd tg ts e w.drew p c s := ⟨h.head.drew, h.st.drew, h.len, h.as_, h.ag, h.may, h.wf⟩
theorem Grd.alloc {tg ts e : TypeId} {w : World} {p : Pl} {c : Cf} {s : St} (h : Grd tg ts e w p c s) (o : Obj) : Grd tg ts e (w.alloc o) p c s := ⟨h.head.alloc o, h.st.alloc o, h.len, h.as_, h.ag, h.may, h.wf⟩
theorem Grd.drw {tg ts e : TypeId} {w w' : World} {p : Pl} {c : Cf} {s : St} (h : Grd tg ts e w p c s) (k : Drw w w') : Grd tg ts e w' p c s := h.later k.new
theorem Grd.ptr {tg ts e : TypeId} {w : World} {p : Pl} {c : Cf} {s : St} (h : Grd tg ts e w p c s) : w.cell? ⟨p.a, 0, none⟩ = some (.pointer (some ⟨p.s, 0, none⟩)) := h.head.cell 0 rfl
theorem Grd.cN {tg ts e : TypeId} {w : World} {p : Pl} {c : Cf} {s : St} (h : Grd tg ts e w p c s) : w.cell? ⟨p.a, 1, none⟩ = some (.int .i64 (c.N : Int)) := h.head.cell 1 rfl
theorem Grd.cW {tg ts e : TypeId} {w : World} {p : Pl} {c : Cf} {s : St} (h : Grd tg ts e w p c s) : w.cell? ⟨p.a, 2, none⟩ = some (.int .i64 (c.W : Int)) := h.head.cell 2 rfl
theorem Grd.cR {tg ts e : TypeId} {w : World} {p : Pl} {c : Cf} {s : St} (h : Grd tg ts e w p c s) : w.cell? ⟨p.a, 3, none⟩ = some (.int .i64 (c.R : Int)) := h.head.cell 3 rfl
theorem Grd.cK {tg ts e : TypeId} {w : World} {p : Pl} {c : Cf} {s : St} (h : Grd tg ts e w p c s) : w.cell? ⟨p.a, 4, none⟩ = some (.int .i64 (c.K : Int)) := h.head.cell 4 rfl
/-- A call has changed the store's blocks alone. -/
theorem Grd.step {tg ts e : TypeId} {w w' : World} {p : Pl} {c : Cf} {s s' : St} (h : Grd tg ts e w p c s) (hS : Sto w' ts e p.s p.g s'.zs (u64m s'.m)) (k : Touch (inG p) w w') (hl : s'.zs.length = s.zs.length) (hw : WfZ s'.zs) : Grd tg ts e w' p c s' :=
  ⟨h.head.touch k (by have := h.as_; have := h.ag; unfold inG inSto; omega), hS, hl.trans h.len, h.as_, h.ag, h.may, hw⟩

/-! ### What the ground's calls do, as functions of what it holds -/
/-- One access to the word k. -/
def St.got (s : St) : St := ⟨s.zs, s.m + 1⟩
def St.set (s : St) (k : Nat) (v : Int) : St := ⟨s.zs.set k v, s.m + 1⟩
theorem St.set_len (s : St) (k : Nat) (v : Int) : (s.set k v).zs.length = s.zs.length := by simp [St.set]

/-- A number below a bound, from 0 on. -/
def bel (n : Int) (b : Nat) : Bool := decide (0 ≤ n ∧ n < (b : Int))
theorem bel_nat {n : Int} {b : Nat} (h : bel n b = true) : ∃ k : Nat, n = (k : Int) ∧ k < b := by
  unfold bel at h
  have := of_decide_eq_true h
  exact ⟨n.toNat, by omega, by omega⟩
theorem bel_mk {k b : Nat} (h : k < b) : bel (k : Int) b = true := by unfold bel; exact decide_eq_true (by omega)
theorem bel_no {n : Int} {b : Nat} (h : bel n b = false) : n < 0 ∨ (b : Int) ≤ n := by
  unfold bel at h
  have := of_decide_eq_false h
  omega
/-- Where a register, a root slot, a block's word lies. -/
def regA (r : Int) : Option Nat := if bel r 24 then some r.toNat else none
def rootA (c : Cf) (i : Int) : Option Nat := if bel i c.R then some (24 + i.toNat) else none
def wordA (c : Cf) (b w : Int) : Option Nat := if bel b c.N && bel w c.W then some (24 + c.R + b.toNat * c.W + w.toNat) else none
theorem wordA_lt' {c : Cf} {b w : Nat} (hb : b < c.N) (hw : w < c.W) : 24 + c.R + b * c.W + w < c.size := by
  have h : (b + 1) * c.W ≤ c.N * c.W := Nat.mul_le_mul_right _ hb
  rw [Nat.add_mul, Nat.one_mul] at h
  unfold Cf.size
  omega
theorem regA_lt {c : Cf} {r : Int} {k : Nat} (h : regA r = some k) : k < c.size := by
  unfold regA at h
  split at h
  · rename_i hb
    obtain ⟨j, rfl, hj⟩ := bel_nat hb
    cases h
    unfold Cf.size
    omega
  · cases h
theorem rootA_lt {c : Cf} {i : Int} {k : Nat} (h : rootA c i = some k) : k < c.size := by
  unfold rootA at h
  split at h
  · rename_i hb
    obtain ⟨j, rfl, hj⟩ := bel_nat hb
    cases h
    unfold Cf.size
    omega
  · cases h
theorem wordA_lt {c : Cf} {b w : Int} {k : Nat} (h : wordA c b w = some k) : k < c.size := by
  unfold wordA at h
  split at h
  · rename_i hb
    rw [Bool.and_eq_true] at hb
    obtain ⟨j, rfl, hj⟩ := bel_nat hb.1
    obtain ⟨i, rfl, hi⟩ := bel_nat hb.2
    cases h
    exact wordA_lt' hj hi
  · cases h

/-- What is told of a place, and what the ground holds then. -/
def St.at? (s : St) (k : Option Nat) : Int := match k with | some k => nth s.zs k | none => 0
def St.ask (s : St) (k : Option Nat) : St := match k with | some _ => s.got | none => s
def St.put (s : St) (k : Option Nat) (v : Int) : St := match k with | some k => s.set k v | none => s
/-- May v be a word? -/
def fitsB (v : Int) : Bool := decide (0 ≤ v ∧ v ≤ 4294967295)
/-- .. of a number that may not fit. -/
def St.putN (s : St) (k : Option Nat) (v : Int) : St := if fitsB v then s.put k v else s
def putB (k : Option Nat) (v : Int) : Bool := k.isSome && fitsB v
theorem St.ask_len (s : St) (k : Option Nat) : (s.ask k).zs.length = s.zs.length := by cases k <;> rfl
theorem St.put_len (s : St) (k : Option Nat) (v : Int) : (s.put k v).zs.length = s.zs.length := by cases k with | none => rfl | some k => exact s.set_len k v
theorem St.putN_len (s : St) (k : Option Nat) (v : Int) : (s.putN k v).zs.length = s.zs.length := by unfold St.putN; split; exact s.put_len k v; rfl

theorem St.at?_wf {s : St} (h : WfZ s.zs) (k : Option Nat) : 0 ≤ s.at? k ∧ s.at? k ≤ 4294967295 := by
  cases k with
  | none => show (0:Int) ≤ 0 ∧ (0:Int) ≤ 4294967295; decide
  | some k => exact h k
theorem fitsB_yes {v : Int} (h : fitsB v = true) : 0 ≤ v ∧ v ≤ 4294967295 := of_decide_eq_true h
theorem fitsB_mk {v : Int} (h0 : 0 ≤ v) (h1 : v ≤ 4294967295) : fitsB v = true := decide_eq_true ⟨h0, h1⟩

/-- A call on a ground: what it returns, and the ground then. -/
def GPost (tg ts e : TypeId) (w : World) (p : Pl) (c : Cf) (s : St) (v : Value) (en : Ending) (w' : World) : Prop :=
  en = .returned v ∧ Grd tg ts e w' p c s ∧ Touch (inG p) w w'

end Go.Proofs.YtljdbaddockfcaaGreat.Pk

namespace Go.Proofs.YtljdbaddockfcaaGreat.Pk
open Go.RowKit
set_option linter.unusedVariables false
set_option linter.unusedSimpArgs false

/-- The program's ground. -/
abbrev G := Grd 76 178 79
abbrev GP := GPost 76 178 79

theorem below_any (n b : Int) (w : World) : Calls Tryz.prog 170 #[.int .i64 n, .int .i64 b] w fun e w' => e = .returned (.bool (decide (0 ≤ n ∧ n < b))) ∧ w = w' := by
  by_cases h : 0 ≤ n
  · go_enter Tryz.func170, Tryz.ntmps170
    go_wp2
    go_ret
    exact ⟨ret_bool (by simp [h]), rfl⟩
  · have h' : n < 0 := by omega
    go_enter Tryz.func170, Tryz.ntmps170
    go_wp2
    go_ret
    exact ⟨ret_bool (by simp; omega), rfl⟩
theorem belowB_any (n : Int) (b : Nat) (w : World) : Calls Tryz.prog 170 #[.int .i64 n, .int .i64 (b : Int)] w fun e w' => e = .returned (.bool (bel n b)) ∧ w = w' := below_any n b w
theorem belowR_any (n : Int) (w : World) : Calls Tryz.prog 170 #[.int .i64 n, .int .i64 24] w fun e w' => e = .returned (.bool (bel n 24)) ∧ w = w' := below_any n 24 w
theorem g_fits_any (n : Int) (w : World) : Calls Tryz.prog 155 #[.int .i64 n] w fun e w' => e = .returned (.bool (fitsB n)) ∧ w = w' := by
  by_cases h : 0 ≤ n
  · go_enter Tryz.func155, Tryz.ntmps155
    go_wp2
    go_ret
    exact ⟨ret_bool (by unfold fitsB; simp [h]), rfl⟩
  · have h' : n < 0 := by omega
    go_enter Tryz.func155, Tryz.ntmps155
    go_wp2
    go_ret
    exact ⟨ret_bool (by unfold fitsB; simp; omega), rfl⟩

theorem eqB {P : Program} {f : FuncId} {args : Array Value} {w : World} {a b : Bool} (h : Calls P f args w fun e w' => e = .returned (.bool a) ∧ w = w') (hab : a = b) :
    Calls P f args w fun e w' => e = .returned (.bool b) ∧ w = w' := hab ▸ h

theorem asV {P : Program} {f : FuncId} {args : Array Value} {w : World} {a b : Value} {Q : World → Prop} (h : Calls P f args w fun e w' => e = .returned a ∧ Q w') (hab : a = b) :
    Calls P f args w fun e w' => e = .returned b ∧ Q w' := hab ▸ h

theorem eqIv' {P : Program} {f : FuncId} {args : Array Value} {w : World} {a b : Int} {Q : World → Prop} (h : Calls P f args w fun e w' => e = .returned (.int .i64 a) ∧ Q w') (hab : a = b) :
    Calls P f args w fun e w' => e = .returned (.int .i64 b) ∧ Q w' := hab ▸ h

/-- A place's number, and whether there is one. -/
def atV (k : Option Nat) : Value := match k with | some k => .tuple #[.int .i64 (k : Int), .bool true] | none => .tuple #[.int .i64 0, .bool false]
theorem atV_some {o : Option Nat} {k : Nat} (h : o = some k) : atV o = .tuple #[.int .i64 (k : Int), .bool true] := by rw [h]; rfl
theorem atV_none {o : Option Nat} (h : o = none) : atV o = .tuple #[.int .i64 0, .bool false] := by rw [h]; rfl

theorem regAt_any (p : Pl) (c : Cf) (s : St) (r : Int) (w : World) (hG : G w p c s) :
    Calls Tryz.prog 130 #[.pointer (some ⟨p.a, 0, none⟩), .int .i64 r] w fun e w' => e = .returned (atV (regA r)) ∧ w = w' := by
  clear hG
  by_cases h : bel r 24 = true
  · obtain ⟨k, rfl, hk⟩ := bel_nat h
    have e1 : regA (k : Int) = some k := by unfold regA; rw [if_pos h]; simp
    rw [e1]
    clear e1
    go_enter Tryz.func130, Tryz.ntmps130
    go_wp2_with fail
    refine (eqB (belowR_any _ _) h).mono ?_
    rintro e w1 ⟨rfl, rfl⟩
    go_wp2_with fail
    go_ret2
    exact ⟨rfl, rfl⟩
  · have h' : bel r 24 = false := by simpa using h
    have e1 : regA r = none := by unfold regA; rw [if_neg h]
    rw [e1]
    clear e1
    go_enter Tryz.func130, Tryz.ntmps130
    go_wp2_with fail
    refine (eqB (belowR_any _ _) h').mono ?_
    rintro e w1 ⟨rfl, rfl⟩
    go_wp2_with fail
    go_ret2
    exact ⟨rfl, rfl⟩

theorem wordAt_yes (p : Pl) (c : Cf) (s : St) (b v : Nat) (w : World) (hG : G w p c s) (hb : b < c.N) (hv : v < c.W) :
    Calls Tryz.prog 123 #[.pointer (some ⟨p.a, 0, none⟩), .int .i64 (b : Int), .int .i64 (v : Int)] w fun e w' => e = .returned (atV (some (24 + c.R + b * c.W + v))) ∧ Drw w w' := by
  have cN := hG.cN
  have cW := hG.cW
  have cR := hG.cR
  have hR := hG.may.r
  have hW := hG.may.w
  have hN := hG.may.n
  have hsz := hG.may.size
  have hlt := wordA_lt' hb hv
  have e0 : ((b * c.W : Nat) : Int) = (b : Int) * (c.W : Int) := Int.natCast_mul _ _
  have hbw : 0 ≤ (b : Int) * (c.W : Int) ∧ (b : Int) * (c.W : Int) ≤ 4198424 := by omega
  clear hG
  have w1 : IntKind.i64.wrap (24 + (c.R : Int)) = 24 + (c.R : Int) := IntWalk.i64_in _ (by omega)
  have w2 : IntKind.i64.wrap ((b : Int) * (c.W : Int)) = (b : Int) * (c.W : Int) := by
    generalize (b : Int) * (c.W : Int) = x at hbw ⊢
    exact IntWalk.i64_in _ (by omega)
  have w3 : IntKind.i64.wrap (24 + (c.R : Int) + (b : Int) * (c.W : Int)) = 24 + (c.R : Int) + (b : Int) * (c.W : Int) := by
    generalize (b : Int) * (c.W : Int) = x at hbw ⊢
    exact IntWalk.i64_in _ (by omega)
  have w4 : IntKind.i64.wrap (24 + (c.R : Int) + (b : Int) * (c.W : Int) + (v : Int)) = 24 + (c.R : Int) + (b : Int) * (c.W : Int) + (v : Int) := by
    generalize (b : Int) * (c.W : Int) = x at hbw ⊢
    exact IntWalk.i64_in _ (by omega)
  have hB := Lib.hid (bel_mk hb)
  have hV := Lib.hid (bel_mk hv)
  have E0 := Lib.hid e0
  clear hb hv e0 hlt hsz
  go_enter Tryz.func123, Tryz.ntmps123
  go_wp2_with fail
  refine (eqB (belowB_any _ _ _) hB.out).mono ?_
  rintro e w1 ⟨rfl, rfl⟩
  go_wp2_with fail
  refine (eqB (belowB_any _ _ _) hV.out).mono ?_
  rintro e w1 ⟨rfl, rfl⟩
  go_wp2_with fail
  go_quiet (fail)
  go_wp2_with fail
  go_ret2
  exact ⟨by have := E0.out; simp [atV], Drw.refl _ |>.step _⟩

theorem wordAt_no1 (p : Pl) (c : Cf) (s : St) (b v : Int) (w : World) (hG : G w p c s) (hb : bel b c.N = false) :
    Calls Tryz.prog 123 #[.pointer (some ⟨p.a, 0, none⟩), .int .i64 b, .int .i64 v] w fun e w' => e = .returned (atV none) ∧ Drw w w' := by
  have cN := hG.cN
  have cW := hG.cW
  have hB := Lib.hid hb
  clear hG hb
  go_enter Tryz.func123, Tryz.ntmps123
  go_wp2_with fail
  refine (eqB (belowB_any _ _ _) hB.out).mono ?_
  rintro e w1 ⟨rfl, rfl⟩
  go_wp2_with fail
  go_ret2
  exact ⟨rfl, Drw.refl _⟩
theorem wordAt_no2 (p : Pl) (c : Cf) (s : St) (b v : Int) (w : World) (hG : G w p c s) (hA0 : bel b c.N = true) (hb : bel v c.W = false) :
    Calls Tryz.prog 123 #[.pointer (some ⟨p.a, 0, none⟩), .int .i64 b, .int .i64 v] w fun e w' => e = .returned (atV none) ∧ Drw w w' := by
  have cN := hG.cN
  have cW := hG.cW
  have hB := Lib.hid hb
  have hA := Lib.hid hA0
  clear hA0
  clear hG hb
  go_enter Tryz.func123, Tryz.ntmps123
  go_wp2_with fail
  refine (eqB (belowB_any _ _ _) hA.out).mono ?_
  rintro e w1 ⟨rfl, rfl⟩
  go_wp2_with fail
  refine (eqB (belowB_any _ _ _) hB.out).mono ?_
  rintro e w1 ⟨rfl, rfl⟩
  go_wp2_with fail
  go_ret2
  exact ⟨rfl, Drw.refl _⟩
theorem wordAt_any (p : Pl) (c : Cf) (s : St) (b v : Int) (w : World) (hG : G w p c s) :
    Calls Tryz.prog 123 #[.pointer (some ⟨p.a, 0, none⟩), .int .i64 b, .int .i64 v] w fun e w' => e = .returned (atV (wordA c b v)) ∧ Drw w w' := by
  by_cases h1 : bel b c.N = true
  · by_cases h2 : bel v c.W = true
    · obtain ⟨i, rfl, hi⟩ := bel_nat h1
      obtain ⟨j, rfl, hj⟩ := bel_nat h2
      have e : wordA c (i : Int) (j : Int) = some (24 + c.R + i * c.W + j) := by unfold wordA; rw [h1, h2]; simp
      rw [e]
      exact wordAt_yes p c s i j w hG hi hj
    · have e : wordA c b v = none := by unfold wordA; simp [h2]
      rw [e]
      exact wordAt_no2 p c s b v w hG h1 (by simpa using h2)
  · have e : wordA c b v = none := by unfold wordA; simp [h1]
    rw [e]
    exact wordAt_no1 p c s b v w hG (by simpa using h1)

theorem reg_any (p : Pl) (c : Cf) (s : St) (r : Int) (w : World) (hG : G w p c s) :
    Calls Tryz.prog 66 #[.pointer (some ⟨p.a, 0, none⟩), .int .i64 r] w (GP w p c (s.ask (regA r)) (.int .i64 (s.at? (regA r)))) := by
  have HG := Lib.hid hG
  clear hG
  cases hk : regA r with
  | none =>
    have HK := Lib.hid hk
    clear hk
    go_enter Tryz.func66, Tryz.ntmps66
    go_wp2_with fail
    refine (asV (regAt_any p c s r _ HG.out) (atV_none HK.out)).mono ?_
    rintro e w1 ⟨rfl, rfl⟩
    have HD := Lib.hid (Drw.refl w)
    have HG1 := HG
    have cp := HG1.out.ptr
    go_wp2_with fail
    go_ret
    exact ⟨rfl, HG1.out, Touch.of_below (HD.out.new)⟩
  | some k =>
    have HK := Lib.hid hk
    have HL := Lib.hid (show k < s.zs.length by rw [HG.out.len]; exact regA_lt hk)
    clear hk
    have hwr : IntKind.i64.wrap (nth s.zs k) = nth s.zs k := by have := HG.out.wf k; exact IntWalk.i64_in _ (by omega)
    go_enter Tryz.func66, Tryz.ntmps66
    go_wp2_with fail
    refine (asV (regAt_any p c s r _ HG.out) (atV_some HK.out)).mono ?_
    rintro e w1 ⟨rfl, rfl⟩
    have HD := Lib.hid (Drw.refl w)
    have HG1 := HG
    have cp := HG1.out.ptr
    go_wp2_with fail
    refine (mget_yes p.s p.g s.zs s.m k _ HG1.out.st HL.out).mono ?_
    rintro e w2 ⟨rfl, hS, hT⟩
    have HS := Lib.hid hS
    have HT := Lib.hid hT
    clear hS hT
    go_wp2_with fail
    go_ret
    exact ⟨rfl, HG1.out.step (s' := s.got) HS.out HT.out rfl HG1.out.wf, (Touch.of_below (HD.out.new)).trans HT.out⟩
theorem seereg_any (p : Pl) (c : Cf) (s : St) (r : Int) (w : World) (hG : G w p c s) :
    Calls Tryz.prog 69 #[.pointer (some ⟨p.a, 0, none⟩), .int .i64 r] w fun e w' => e = .returned (.int .i64 (s.at? (regA r))) ∧ w = w' := by
  have HG := Lib.hid hG
  clear hG
  cases hk : regA r with
  | none =>
    have HK := Lib.hid hk
    clear hk
    go_enter Tryz.func69, Tryz.ntmps69
    go_wp2_with fail
    refine (asV (regAt_any p c s r _ HG.out) (atV_none HK.out)).mono ?_
    rintro e w1 ⟨rfl, rfl⟩
    have HD := Lib.hid (Drw.refl w)
    have HG1 := HG
    have cp := HG1.out.ptr
    go_wp2_with fail
    go_ret
    exact ⟨rfl, rfl⟩
  | some k =>
    have HK := Lib.hid hk
    have HL := Lib.hid (show k < s.zs.length by rw [HG.out.len]; exact regA_lt hk)
    clear hk
    have hwr : IntKind.i64.wrap (nth s.zs k) = nth s.zs k := by have := HG.out.wf k; exact IntWalk.i64_in _ (by omega)
    go_enter Tryz.func69, Tryz.ntmps69
    go_wp2_with fail
    refine (asV (regAt_any p c s r _ HG.out) (atV_some HK.out)).mono ?_
    rintro e w1 ⟨rfl, rfl⟩
    have HD := Lib.hid (Drw.refl w)
    have HG1 := HG
    have cp := HG1.out.ptr
    go_wp2_with fail
    refine (peek_yes p.s p.g s.zs _ k _ HG1.out.st HL.out).mono ?_
    rintro e w2 ⟨rfl, rfl⟩
    go_wp2_with fail
    go_ret
    exact ⟨rfl, rfl⟩
theorem setreg_any (p : Pl) (c : Cf) (s : St) (r : Int) (x : Int) (w : World) (hG : G w p c s) :
    Calls Tryz.prog 96 #[.pointer (some ⟨p.a, 0, none⟩), .int .i64 r, .int .i64 x] w (GP w p c (s.putN (regA r) x) (.bool (putB (regA r) x))) := by
  have HG := Lib.hid hG
  clear hG
  cases hk : regA r with
  | none =>
    have HK := Lib.hid hk
    have E : Hid (s.putN none x = s) := Lib.hid (by unfold St.putN; split <;> rfl)
    clear hk
    go_enter Tryz.func96, Tryz.ntmps96
    go_wp2_with fail
    refine (asV (regAt_any p c s r _ HG.out) (atV_none HK.out)).mono ?_
    rintro e w1 ⟨rfl, rfl⟩
    have HD := Lib.hid (Drw.refl w)
    have HG1 := HG
    have cp := HG1.out.ptr
    go_wp2_with fail
    go_ret
    exact ⟨rfl, by rw [E.out]; exact HG1.out, Touch.of_below (HD.out.new)⟩
  | some k =>
    have HK := Lib.hid hk
    have HL := Lib.hid (show k < s.zs.length by rw [HG.out.len]; exact regA_lt hk)
    clear hk
    by_cases hf : fitsB x = true
    · have hr := fitsB_yes hf
      have hwr : IntKind.u32.wrap x = x := IntWalk.u32_in _ (by omega)
      have HF := Lib.hid hf
      clear hf
      go_enter Tryz.func96, Tryz.ntmps96
      go_wp2_with fail
      refine (asV (regAt_any p c s r _ HG.out) (atV_some HK.out)).mono ?_
      rintro e w1 ⟨rfl, rfl⟩
      have HD := Lib.hid (Drw.refl w)
      have HG1 := HG
      have cp := HG1.out.ptr
      go_wp2_with fail
      refine (eqB (g_fits_any _ _) HF.out).mono ?_
      rintro e w1 ⟨rfl, rfl⟩
      go_wp2_with fail
      refine (mput_yes p.s p.g s.zs s.m x k _ HG1.out.st HL.out).mono ?_
      rintro e w2 ⟨rfl, hS, hT⟩
      have HS := Lib.hid hS
      have HT := Lib.hid hT
      clear hS hT
      go_wp2_with fail
      go_ret
      refine ⟨by unfold putB; rw [HF.out]; rfl, ?_, (Touch.of_below (HD.out.new)).trans HT.out⟩
      rw [show s.putN (some k) x = s.set k x by unfold St.putN; rw [if_pos HF.out]; rfl]
      exact HG1.out.step (s' := s.set k x) HS.out HT.out (s.set_len k x) (HG1.out.wf.set k hr.1 hr.2)
    · have HF := Lib.hid (show fitsB x = false by simpa using hf)
      clear hf
      go_enter Tryz.func96, Tryz.ntmps96
      go_wp2_with fail
      refine (asV (regAt_any p c s r _ HG.out) (atV_some HK.out)).mono ?_
      rintro e w1 ⟨rfl, rfl⟩
      have HD := Lib.hid (Drw.refl w)
      have HG1 := HG
      have cp := HG1.out.ptr
      go_wp2_with fail
      refine (eqB (g_fits_any _ _) HF.out).mono ?_
      rintro e w1 ⟨rfl, rfl⟩
      go_wp2_with fail
      go_ret
      exact ⟨by unfold putB; rw [HF.out]; rfl, by unfold St.putN; rw [if_neg (by rw [HF.out]; simp)]; exact HG1.out, Touch.of_below (HD.out.new)⟩
theorem word_any (p : Pl) (c : Cf) (s : St) (b v : Int) (w : World) (hG : G w p c s) :
    Calls Tryz.prog 61 #[.pointer (some ⟨p.a, 0, none⟩), .int .i64 b, .int .i64 v] w (GP w p c (s.ask (wordA c b v)) (.int .u32 (s.at? (wordA c b v)))) := by
  have HG := Lib.hid hG
  clear hG
  cases hk : wordA c b v with
  | none =>
    have HK := Lib.hid hk
    clear hk
    go_enter Tryz.func61, Tryz.ntmps61
    go_wp2_with fail
    refine (asV (wordAt_any p c s b v _ HG.out) (atV_none HK.out)).mono ?_
    rintro e w1 ⟨rfl, hd⟩
    have HD := Lib.hid hd
    have HG1 := Lib.hid (HG.out.drw hd)
    have cp := HG1.out.ptr
    clear hd
    go_wp2_with fail
    go_ret
    exact ⟨rfl, HG1.out, Touch.of_below (HD.out.new)⟩
  | some k =>
    have HK := Lib.hid hk
    have HL := Lib.hid (show k < s.zs.length by rw [HG.out.len]; exact wordA_lt hk)
    clear hk
    go_enter Tryz.func61, Tryz.ntmps61
    go_wp2_with fail
    refine (asV (wordAt_any p c s b v _ HG.out) (atV_some HK.out)).mono ?_
    rintro e w1 ⟨rfl, hd⟩
    have HD := Lib.hid hd
    have HG1 := Lib.hid (HG.out.drw hd)
    have cp := HG1.out.ptr
    clear hd
    go_wp2_with fail
    refine (mget_yes p.s p.g s.zs s.m k _ HG1.out.st HL.out).mono ?_
    rintro e w2 ⟨rfl, hS, hT⟩
    have HS := Lib.hid hS
    have HT := Lib.hid hT
    clear hS hT
    go_wp2_with fail
    go_ret
    exact ⟨rfl, HG1.out.step (s' := s.got) HS.out HT.out rfl HG1.out.wf, (Touch.of_below (HD.out.new)).trans HT.out⟩
theorem seeword_any (p : Pl) (c : Cf) (s : St) (b v : Int) (w : World) (hG : G w p c s) :
    Calls Tryz.prog 125 #[.pointer (some ⟨p.a, 0, none⟩), .int .i64 b, .int .i64 v] w fun e w' => e = .returned (.int .u32 (s.at? (wordA c b v))) ∧ Drw w w' := by
  have HG := Lib.hid hG
  clear hG
  cases hk : wordA c b v with
  | none =>
    have HK := Lib.hid hk
    clear hk
    go_enter Tryz.func125, Tryz.ntmps125
    go_wp2_with fail
    refine (asV (wordAt_any p c s b v _ HG.out) (atV_none HK.out)).mono ?_
    rintro e w1 ⟨rfl, hd⟩
    have HD := Lib.hid hd
    have HG1 := Lib.hid (HG.out.drw hd)
    have cp := HG1.out.ptr
    clear hd
    go_wp2_with fail
    go_ret
    exact ⟨rfl, HD.out⟩
  | some k =>
    have HK := Lib.hid hk
    have HL := Lib.hid (show k < s.zs.length by rw [HG.out.len]; exact wordA_lt hk)
    clear hk
    go_enter Tryz.func125, Tryz.ntmps125
    go_wp2_with fail
    refine (asV (wordAt_any p c s b v _ HG.out) (atV_some HK.out)).mono ?_
    rintro e w1 ⟨rfl, hd⟩
    have HD := Lib.hid hd
    have HG1 := Lib.hid (HG.out.drw hd)
    have cp := HG1.out.ptr
    clear hd
    go_wp2_with fail
    refine (peek_yes p.s p.g s.zs _ k _ HG1.out.st HL.out).mono ?_
    rintro e w2 ⟨rfl, rfl⟩
    go_wp2_with fail
    go_ret
    exact ⟨rfl, HD.out⟩
theorem setword_any (p : Pl) (c : Cf) (s : St) (b v : Int) (x : Int) (w : World) (hG : G w p c s) (h0 : 0 ≤ x) (h1 : x ≤ 4294967295) :
    Calls Tryz.prog 100 #[.pointer (some ⟨p.a, 0, none⟩), .int .i64 b, .int .i64 v, .int .u32 x] w (GP w p c (s.put (wordA c b v) x) (.bool (wordA c b v).isSome)) := by
  have HG := Lib.hid hG
  clear hG
  cases hk : wordA c b v with
  | none =>
    have HK := Lib.hid hk
    clear hk
    go_enter Tryz.func100, Tryz.ntmps100
    go_wp2_with fail
    refine (asV (wordAt_any p c s b v _ HG.out) (atV_none HK.out)).mono ?_
    rintro e w1 ⟨rfl, hd⟩
    have HD := Lib.hid hd
    have HG1 := Lib.hid (HG.out.drw hd)
    have cp := HG1.out.ptr
    clear hd
    go_wp2_with fail
    go_ret
    exact ⟨rfl, HG1.out, Touch.of_below (HD.out.new)⟩
  | some k =>
    have HK := Lib.hid hk
    have HL := Lib.hid (show k < s.zs.length by rw [HG.out.len]; exact wordA_lt hk)
    clear hk
    go_enter Tryz.func100, Tryz.ntmps100
    go_wp2_with fail
    refine (asV (wordAt_any p c s b v _ HG.out) (atV_some HK.out)).mono ?_
    rintro e w1 ⟨rfl, hd⟩
    have HD := Lib.hid hd
    have HG1 := Lib.hid (HG.out.drw hd)
    have cp := HG1.out.ptr
    clear hd
    go_wp2_with fail
    refine (mput_yes p.s p.g s.zs s.m x k _ HG1.out.st HL.out).mono ?_
    rintro e w2 ⟨rfl, hS, hT⟩
    have HS := Lib.hid hS
    have HT := Lib.hid hT
    clear hS hT
    go_wp2_with fail
    go_ret
    exact ⟨rfl, HG1.out.step (s' := s.set k x) HS.out HT.out (s.set_len k x) (HG1.out.wf.set k h0 h1), (Touch.of_below (HD.out.new)).trans HT.out⟩

end Go.Proofs.YtljdbaddockfcaaGreat.Pk

namespace Go.Proofs.YtljdbaddockfcaaGreat.Pk
open Go.RowKit
set_option linter.unusedVariables false
set_option linter.unusedSimpArgs false

theorem gmeter_any (p : Pl) (c : Cf) (s : St) (w : World) (hG : G w p c s) :
    Calls Tryz.prog 73 #[.pointer (some ⟨p.a, 0, none⟩)] w fun e w' => e = .returned (.int .u64 (u64m s.m)) ∧ w = w' := by
  have cp := hG.ptr
  have HG := Lib.hid hG
  clear hG
  go_enter Tryz.func73, Tryz.ntmps73
  go_wp2_with fail
  refine (meter_any p.s p.g s.zs _ _ HG.out.st).mono ?_
  rintro e w1 ⟨rfl, rfl⟩
  go_wp2_with fail
  go_ret
  exact ⟨rfl, rfl⟩
theorem gconf_any (p : Pl) (c : Cf) (s : St) (w : World) (hG : G w p c s) :
    Calls Tryz.prog 13 #[.pointer (some ⟨p.a, 0, none⟩)] w fun e w' => e = .returned c.val ∧ Below w.heap.size w w' := by
  have cN := hG.cN
  have cW := hG.cW
  have cR := hG.cR
  have cK := hG.cK
  have ha := hG.head.lt
  clear hG
  go_enter Tryz.func13, Tryz.ntmps13
  go_wp2_with fail
  exact bodyPost_ret (v := c.val) (by simp [results, Tryz.results13, go_sem, Cf.val]) rfl ⟨rfl, by
    repeat refine Below.setCell ?_ (by simp) _
    exact below_new w _⟩

/-- Words made 0, from one on. -/
def St.wipe (s : St) (f : Nat) : Nat → St
  | 0 => s
  | n + 1 => (s.wipe f n).set (f + n) 0
theorem St.wipe_len (s : St) (f n : Nat) : (s.wipe f n).zs.length = s.zs.length := by
  induction n with
  | zero => rfl
  | succ n ih => rw [← ih]; exact St.set_len _ _ _
theorem St.wipe_m (s : St) (f n : Nat) : (s.wipe f n).m = s.m + n := by
  induction n with
  | zero => rfl
  | succ n ih => show (s.wipe f n).m + 1 = _; omega
theorem St.wipe_nth (s : St) (f n k : Nat) (h : f + n ≤ s.zs.length) : nth (s.wipe f n).zs k = if f ≤ k ∧ k < f + n then 0 else nth s.zs k := by
  induction n with
  | zero => rw [if_neg (by omega)]; rfl
  | succ n ih =>
    show nth ((s.wipe f n).zs.set (f + n) 0) k = _
    by_cases e : f + n = k
    · subst e
      rw [nth_set_eq (by rw [St.wipe_len]; omega), if_pos (by omega)]
    · rw [nth_set_ne e, ih (by omega)]
      by_cases h1 : f ≤ k ∧ k < f + n
      · rw [if_pos h1, if_pos (by omega)]
      · rw [if_neg h1, if_neg (by omega)]
theorem WfZ.wipe {s : St} (h : WfZ s.zs) (f n : Nat) : WfZ (s.wipe f n).zs := by
  induction n with
  | zero => exact h
  | succ n ih => exact WfZ.set ih _ (Int.le_refl _) (by decide)
/-- What Wipe does. -/
def St.wiped (s : St) (c : Cf) (b : Int) : St := match wordA c b 0 with | some f => s.wipe f c.W | none => s

def wipeV (c : Cf) (b : Int) : Int := if bel b c.N then (c.W : Int) else 0
theorem wipe_any (p : Pl) (c : Cf) (s : St) (b : Int) (w : World) (hG : G w p c s) :
    Calls Tryz.prog 197 #[.pointer (some ⟨p.a, 0, none⟩), .int .i64 b] w (GP w p c (s.wiped c b) (.int .i64 (wipeV c b))) := by
  have HG := Lib.hid hG
  clear hG
  have e0 : ((0 : Nat) : Int) = 0 := rfl
  cases hk : wordA c b 0 with
  | none =>
    have HK := Lib.hid hk
    have HB : Hid (bel b c.N = false) := Lib.hid (by
      have := HG.out.may.w
      cases hb : bel b c.N with
      | false => rfl
      | true =>
        have h2 : bel (0 : Int) c.W = true := bel_mk (k := 0) (by omega)
        rw [wordA, hb, h2] at hk
        cases hk)
    clear hk
    go_enter Tryz.func197, Tryz.ntmps197
    go_wp2_with fail
    refine (asV (wordAt_any p c s b 0 _ HG.out) (atV_none HK.out)).mono ?_
    rintro e w1 ⟨rfl, hd⟩
    have HD := Lib.hid hd
    clear hd
    go_wp2_with fail
    go_ret
    refine ⟨by unfold wipeV; rw [HB.out]; rfl, ?_, Touch.of_below HD.out.new⟩
    rw [show s.wiped c b = s by unfold St.wiped; rw [HK.out]]
    exact HG.out.drw HD.out
  | some f =>
    have HK := Lib.hid hk
    have hB : bel b c.N = true := by
      cases hb : bel b c.N with
      | true => rfl
      | false => rw [wordA, hb] at hk; cases hk
    have HF : Hid (f + c.W ≤ c.size) := Lib.hid (by
      obtain ⟨i, rfl, hi⟩ := bel_nat hB
      have h2 : bel (0 : Int) c.W = true := bel_mk (k := 0) (by have := HG.out.may.w; omega)
      rw [wordA, hB, h2] at hk
      cases hk
      have := wordA_lt' (w := c.W - 1) hi (by have := HG.out.may.w; omega)
      have := HG.out.may.w
      simp
      omega)
    have HB := Lib.hid hB
    clear hk hB
    go_enter Tryz.func197, Tryz.ntmps197
    go_wp2_with fail
    refine (asV (wordAt_any p c s b 0 _ HG.out) (atV_some HK.out)).mono ?_
    rintro e w1 ⟨rfl, hd⟩
    have HD := Lib.hid hd
    have HG1 := Lib.hid (HG.out.drw hd)
    have cW := HG1.out.cW
    clear hd
    go_wp2_with fail
    go_loopw [21] (fun i wr => ∃ k : Nat, k ≤ c.W ∧ i = .int .i64 k ∧ G wr p c (s.wipe f k) ∧ Touch (inG p) w wr) (fun i _ => c.W - (intOf i).toNat)
    case atStart => exact ⟨0, Nat.zero_le _, rfl, HG1.out, Touch.of_below HD.out.new⟩
    case round =>
      obtain ⟨k, hkW, rfl, hGk, hTk⟩ := hrel
      have hW := HG.out.may.w
      have HGk := Lib.hid hGk
      have HTk := Lib.hid hTk
      have cp := hGk.ptr
      have cW := hGk.cW
      have hf : f + k ≤ 4198424 := by have := HF.out; have := HG.out.may.size; omega
      have hadd : IntKind.i64.wrap ((f : Int) + (k : Int)) = ((f + k : Nat) : Int) := by rw [IntWalk.i64_in _ (by omega)]; exact (Int.natCast_add f k).symm
      clear hGk hTk
      by_cases hlt : k < c.W
      · have HL : Hid (f + k < (s.wipe f k).zs.length) := Lib.hid (by rw [St.wipe_len, HG.out.len]; have := HF.out; omega)
        go_wp2_with fail
        refine (mput_yes p.s p.g (s.wipe f k).zs (s.wipe f k).m 0 (f + k) _ HGk.out.st HL.out).mono ?_
        rintro e w2 ⟨rfl, hS, hT⟩
        have HS := Lib.hid hS
        have HT := Lib.hid hT
        clear hS hT
        go_wp2_with fail
        go_roundw
        case rel => exact ⟨k + 1, by omega, by go_num, HGk.out.step (s' := s.wipe f (k + 1)) HS.out HT.out (St.set_len _ _ _) (HG.out.wf.wipe f (k + 1)), HTk.out.trans HT.out⟩
        case measure => simp [intOf]; omega
      · obtain rfl : k = c.W := by omega
        go_wp2_with fail
        go_ret
        refine ⟨by unfold wipeV; rw [HB.out]; rfl, ?_, HTk.out⟩
        rw [show s.wiped c b = s.wipe f c.W by unfold St.wiped; rw [HK.out]]
        exact HGk.out

/-- A new ground, all words 0. -/
def NewG (tg ts e : TypeId) (w : World) (c : Cf) (en : Ending) (w' : World) : Prop :=
  ∃ p : Pl, en = .returned (.tuple #[.pointer (some ⟨p.a, 0, none⟩), .int .i64 0]) ∧ Grd tg ts e w' p c ⟨List.replicate c.size 0, 0⟩ ∧ (∀ k, ofG p k → w.heap.size ≤ k) ∧ Below w.heap.size w w'

theorem numsC {c : Cf} : numsV c.N c.W c.R c.K = .agg #[.int .i64 (c.size : Int), .int .i64 ((c.W : Int) - 8), .int .i64 ((c.W : Int) - 7), .int .i64 (fieldsI c.W), .int .i64 (epochI c.N c.W), .int .i64 (drainI c.N c.W), .int .i64 (lagI c.N c.W c.K), .int .i64 (settleI c.N c.W c.K)] := by
  unfold numsV
  have e : wordsI (c.N : Int) (c.W : Int) (c.R : Int) = (c.size : Int) := by
    unfold wordsI Cf.size
    simp [Int.natCast_add, Int.natCast_mul]
  rw [e]

set_option maxHeartbeats 400000 in
theorem gnew_yes (c : Cf) (w : World) (h : c.May) :
    Calls Tryz.prog 70 #[c.val] w (NewG 76 178 79 w c) := by
  have HM := Lib.hid h
  unfold Cf.val
  clear h
  go_enter Tryz.func70, Tryz.ntmps70
  go_wp2_with fail
  refine (ofV _ HM.out numsC).mono ?_
  rintro e w1 ⟨rfl, hb⟩
  obtain ⟨hc, hf⟩ := bcell hb
  have hz : w.heap.size < w1.heap.size := by have := hb.size; simp at this; omega
  have HB := Lib.hid (below_step (below_new w _) hb)
  clear hb
  go_wp2_with fail
  refine (new_yes c.size _ (by have := HM.out.size; omega)).mono ?_
  rintro e w2 ⟨s, g, rfl, hS, hs, hg, hb⟩
  have HS := Lib.hid hS
  have HB2 := Lib.hid hb
  have Hs := Lib.hid hs
  have Hg := Lib.hid hg
  obtain ⟨hc2, hf2⟩ := bcell hb
  have hz2 : w.heap.size < w2.heap.size := by have := hb.size; simp at this; omega
  have c0 : w2.cell? ⟨w.heap.size, 0, none⟩ = some (.int .i64 (c.N : Int)) := by rw [hc2 _ _ (by simp; omega)]; go_simp
  have c1 : w2.cell? ⟨w.heap.size, 1, none⟩ = some (.int .i64 (c.W : Int)) := by rw [hc2 _ _ (by simp; omega)]; go_simp
  have c2 : w2.cell? ⟨w.heap.size, 2, none⟩ = some (.int .i64 (c.R : Int)) := by rw [hc2 _ _ (by simp; omega)]; go_simp
  have c3 : w2.cell? ⟨w.heap.size, 3, none⟩ = some (.int .i64 (c.K : Int)) := by rw [hc2 _ _ (by simp; omega)]; go_simp
  clear hS hs hg hb hc hf hc2 hf2
  go_wp2_with fail
  go_ret2
  exact ⟨⟨w2.heap.size, s, g⟩, rfl, ⟨Blk.new w2 _ _, HS.out.alloc _, by simp, by have := HS.out.head.lt; simp; omega, by have := HS.out.body.lt; simp; omega, HM.out, WfZ.rep _⟩, by
    have h1 := HB.out.size
    have h2 := HB2.out.size
    have h3 := Hs.out
    have h4 := Hg.out
    simp at h2 h3 h4
    intro k hk
    have hk' : k = w2.heap.size ∨ k = s ∨ k = g := hk
    omega, by
    have h1 := HB.out.size
    have h2 := HB2.out.size
    simp at h2
    exact ((HB.out.alloc HB.out.size _).trans (HB2.out.mono (by simp; omega))).alloc (by omega) _⟩

theorem gnew_no (n v r k : Int) (w : World) (h : mayB n v r k = false) :
    Calls Tryz.prog 70 #[.agg #[.int .i64 n, .int .i64 v, .int .i64 r, .int .i64 k]] w fun e w' => e = .returned (.tuple #[.pointer none, .int .i64 1]) ∧ Below w.heap.size w w' := by
  have HM := Lib.hid h
  clear h
  go_enter Tryz.func70, Tryz.ntmps70
  go_wp2_with fail
  refine (of_no _ _ _ _ _ HM.out).mono ?_
  rintro e w1 ⟨rfl, hb⟩
  have HB := Lib.hid (below_step (below_new w _) hb)
  clear hb
  go_wp2_with fail
  go_ret2
  exact ⟨rfl, HB.out.alloc HB.out.size _⟩

end Go.Proofs.YtljdbaddockfcaaGreat.Pk

namespace Go.Proofs.YtljdbaddockfcaaGreat.Pk
open Go.RowKit
set_option linter.unusedVariables false
set_option linter.unusedSimpArgs false

/-- Where a block's word lies. -/
def adr (c : Cf) (b v : Nat) : Nat := 24 + c.R + b * c.W + v
theorem adr_lt {c : Cf} {b v : Nat} (hb : b < c.N) (hv : v < c.W) : adr c b v < c.size := wordA_lt' hb hv
theorem adr_word {c : Cf} {b v : Nat} (hb : b < c.N) (hv : v < c.W) : wordA c (b : Int) (v : Int) = some (adr c b v) := by
  unfold wordA
  rw [bel_mk hb, bel_mk hv]
  rfl
theorem adr_inj {c : Cf} {a b u v : Nat} (hu : u < c.W) (hv : v < c.W) (h : adr c a u = adr c b v) : a = b ∧ u = v := by
  unfold adr at h
  have h2 : a * c.W + u = b * c.W + v := by omega
  have e1 : (a * c.W + u) / c.W = a := by rw [Nat.add_comm, Nat.add_mul_div_right _ _ (by omega), Nat.div_eq_of_lt hu]; omega
  have e2 : (b * c.W + v) / c.W = b := by rw [Nat.add_comm, Nat.add_mul_div_right _ _ (by omega), Nat.div_eq_of_lt hv]; omega
  have : a = b := by rw [← e1, ← e2, h2]
  subst this
  exact ⟨rfl, by omega⟩
theorem adr_reg {c : Cf} {b v r : Nat} (hr : r < 24) : ¬ r = adr c b v := by unfold adr; omega
theorem adr_reg' {c : Cf} {b v r : Nat} (hr : r < 24) : ¬ adr c b v = r := by unfold adr; omega
theorem reg_is {r : Nat} (h : r < 24) : regA (r : Int) = some r := by
  unfold regA; rw [bel_mk h]; simp

/-- A register that there is. -/
theorem regR (p : Pl) (c : Cf) (s : St) (r : Nat) (x y : Int) (w : World) (hG : G w p c s) (hr : r < 24) (hx : x = (r : Int)) (hy : nth s.zs r = y) :
    Calls Tryz.prog 66 #[.pointer (some ⟨p.a, 0, none⟩), .int .i64 x] w (GP w p c s.got (.int .i64 y)) := by
  subst hx hy
  have h := reg_any p c s (r : Int) w hG
  rw [reg_is hr] at h
  exact h
theorem setregR (p : Pl) (c : Cf) (s : St) (r : Nat) (x y : Int) (w : World) (hG : G w p c s) (hr : r < 24) (hx : x = (r : Int)) (h0 : 0 ≤ y) (h1 : y ≤ 4294967295) :
    Calls Tryz.prog 96 #[.pointer (some ⟨p.a, 0, none⟩), .int .i64 x, .int .i64 y] w (GP w p c (s.set r y) (.bool true)) := by
  subst hx
  have h := setreg_any p c s (r : Int) y w hG
  rw [reg_is hr] at h
  have e : s.putN (some r) y = s.set r y := by unfold St.putN; rw [if_pos (fitsB_mk h0 h1)]; rfl
  have e2 : putB (some r) y = true := by unfold putB; rw [fitsB_mk h0 h1]; rfl
  rw [e, e2] at h
  exact h
/-- A word that there is. -/
theorem wordW (p : Pl) (c : Cf) (s : St) (b v : Nat) (x z y : Int) (w : World) (hG : G w p c s) (hb : b < c.N) (hv : v < c.W) (hx : x = (b : Int)) (hz : z = (v : Int)) (hy : nth s.zs (adr c b v) = y) :
    Calls Tryz.prog 61 #[.pointer (some ⟨p.a, 0, none⟩), .int .i64 x, .int .i64 z] w (GP w p c s.got (.int .u32 y)) := by
  subst hx hz hy
  have h := word_any p c s (b : Int) (v : Int) w hG
  rw [adr_word hb hv] at h
  exact h
theorem setwordW (p : Pl) (c : Cf) (s : St) (b v : Nat) (x z y : Int) (w : World) (hG : G w p c s) (hb : b < c.N) (hv : v < c.W) (hx : x = (b : Int)) (hz : z = (v : Int)) (h0 : 0 ≤ y) (h1 : y ≤ 4294967295) :
    Calls Tryz.prog 100 #[.pointer (some ⟨p.a, 0, none⟩), .int .i64 x, .int .i64 z, .int .u32 y] w (GP w p c (s.set (adr c b v) y) (.bool true)) := by
  subst hx hz
  have h := setword_any p c s (b : Int) (v : Int) y w hG h0 h1
  rw [adr_word hb hv] at h
  exact h
theorem seewordW (p : Pl) (c : Cf) (s : St) (b v : Nat) (x z y : Int) (w : World) (hG : G w p c s) (hb : b < c.N) (hv : v < c.W) (hx : x = (b : Int)) (hz : z = (v : Int)) (hy : nth s.zs (adr c b v) = y) :
    Calls Tryz.prog 125 #[.pointer (some ⟨p.a, 0, none⟩), .int .i64 x, .int .i64 z] w fun e w' => e = .returned (.int .u32 y) ∧ Drw w w' := by
  subst hx hz hy
  have h := seeword_any p c s (b : Int) (v : Int) w hG
  rw [adr_word hb hv] at h
  exact h
theorem seeregR (p : Pl) (c : Cf) (s : St) (r : Nat) (x y : Int) (w : World) (hG : G w p c s) (hr : r < 24) (hx : x = (r : Int)) (hy : nth s.zs r = y) :
    Calls Tryz.prog 69 #[.pointer (some ⟨p.a, 0, none⟩), .int .i64 x] w fun e w' => e = .returned (.int .i64 y) ∧ w = w' := by
  subst hx hy
  have h := seereg_any p c s (r : Int) w hG
  rw [reg_is hr] at h
  exact h
theorem GPost.out {tg ts e : TypeId} {w w' : World} {p : Pl} {c : Cf} {s : St} {v : Value} {en : Ending} (h : GPost tg ts e w p c s v en w') : en = .returned v ∧ Grd tg ts e w' p c s ∧ Touch (inG p) w w' := h
/-- A configuration's first field, beside nothing. -/
theorem gconfC (p : Pl) (c : Cf) (s : St) (w : World) (hG : G w p c s) :
    Calls Tryz.prog 13 #[.pointer (some ⟨p.a, 0, none⟩)] w fun e w' => e = .returned (.agg #[.int .i64 (c.N : Int), .int .i64 (c.W : Int), .int .i64 (c.R : Int), .int .i64 (c.K : Int)]) ∧ Below w.heap.size w w' := gconf_any p c s w hG
theorem cfield0 (a b c d : Int) (w : World) : (Instr.field 33 (.agg #[.int .i64 a, .int .i64 b, .int .i64 c, .int .i64 d]) 0).run Tryz.prog w = .ok (.int .i64 a) w := by kernel_rfl
theorem cfield1 (a b c d : Int) (w : World) : (Instr.field 33 (.agg #[.int .i64 a, .int .i64 b, .int .i64 c, .int .i64 d]) 1).run Tryz.prog w = .ok (.int .i64 b) w := by kernel_rfl
theorem cfield2 (a b c d : Int) (w : World) : (Instr.field 33 (.agg #[.int .i64 a, .int .i64 b, .int .i64 c, .int .i64 d]) 2).run Tryz.prog w = .ok (.int .i64 c) w := by kernel_rfl
theorem cfield3 (a b c d : Int) (w : World) : (Instr.field 33 (.agg #[.int .i64 a, .int .i64 b, .int .i64 c, .int .i64 d]) 3).run Tryz.prog w = .ok (.int .i64 d) w := by kernel_rfl

end Go.Proofs.YtljdbaddockfcaaGreat.Pk
