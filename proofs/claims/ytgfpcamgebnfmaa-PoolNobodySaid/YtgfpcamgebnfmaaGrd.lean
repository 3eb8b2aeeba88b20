/-
  A ground in memory: a store, and beside it the configuration it was made of. Its words as a list; its meter as the number of accesses.
-/
import Derived.Test.YtgfpcamgebnfmaaMSto
import Derived.Test.YtgfpcamgebnfmaaPlanMath
namespace Go.Proofs.Ytgfpcamgebnfmaa.Pk
open Go.RowKit
set_option linter.unusedVariables false
set_option linter.unusedSimpArgs false

theorem bne_of' {a b : Int} (h : a ≠ b) : (a == b) = false := by rw [beq_eq_false_iff_ne]; exact h
theorem blk_row' {w : World} {q : Nat} {e : TypeId} {zs : List Int} (h : Blk w q (words zs) e) : Row w .u32 (some ⟨q, 0, none⟩) zs := fun i hi =>
  ⟨q, 0, rfl, h.lt, by rw [Nat.zero_add]; exact h.cell i (words_get hi)⟩

/-- A configuration's numbers. -/
structure Cf where
  N : Nat
  W : Nat
  R : Nat
  K : Nat
def Cf.May (c : Cf) : Prop := Pk.May (c.N : Int) (c.W : Int) (c.R : Int) (c.K : Int)
def Cf.size (c : Cf) : Nat := 24 + c.R + c.N * c.W
def Cf.val (c : Cf) : Value := .agg #[.int .i64 (c.N : Int), .int .i64 (c.W : Int), .int .i64 (c.R : Int), .int .i64 (c.K : Int)]
theorem Cf.May.nw {c : Cf} (h : c.May) : 16 ≤ c.N * c.W ∧ c.N * c.W ≤ 4194304 := by
  obtain ⟨h1, h2⟩ := nw_bd h
  have e : ((c.N * c.W : Nat) : Int) = (c.N : Int) * (c.W : Int) := Int.natCast_mul _ _
  omega
theorem Cf.May.n {c : Cf} (h : c.May) : 1 ≤ c.N ∧ c.N ≤ 1048576 := by have := h.n0; have := h.n1; omega
theorem Cf.May.w {c : Cf} (h : c.May) : 16 ≤ c.W ∧ c.W ≤ 256 := by have := h.w0; have := h.w1; omega
theorem Cf.May.r {c : Cf} (h : c.May) : 1 ≤ c.R ∧ c.R ≤ 4096 := by have := h.r0; have := h.r1; omega
theorem Cf.May.k {c : Cf} (h : c.May) : 1 ≤ c.K ∧ c.K ≤ 65536 := by have := h.k0; have := h.k1; omega
theorem Cf.May.size {c : Cf} (h : c.May) : 41 ≤ c.size ∧ c.size ≤ 4198424 := by
  have := h.nw; have := h.r; unfold Cf.size; omega

/-- Where a ground lies: its own block, its store's, its words'. -/
structure Pl where
  a : Nat
  s : Nat
  g : Nat

/-- What a ground holds: its words, and how many accesses there were. -/
structure St where
  zs : List Int
  m : Nat

/-- Words are numbers of 32 bits. -/
def WfZ (zs : List Int) : Prop := ∀ k, 0 ≤ nth zs k ∧ nth zs k ≤ 4294967295
theorem nth_set_eq {zs : List Int} {k : Nat} (hk : k < zs.length) (v : Int) : nth (zs.set k v) k = v := by unfold nth; simp [List.getD, hk]
theorem nth_set_ne {zs : List Int} {k j : Nat} (h : k ≠ j) (v : Int) : nth (zs.set k v) j = nth zs j := by unfold nth; simp [List.getD, h]
theorem nth_out {zs : List Int} {k : Nat} (hk : zs.length ≤ k) : nth zs k = 0 := by unfold nth; simp [List.getD, hk]
theorem nth_rep (q k : Nat) : nth (List.replicate q 0) k = 0 := by
  unfold nth
  rw [List.getD_eq_getElem?_getD, List.getElem?_replicate]
  split <;> rfl
theorem WfZ.set {zs : List Int} (h : WfZ zs) (k : Nat) {v : Int} (h0 : 0 ≤ v) (h1 : v ≤ 4294967295) : WfZ (zs.set k v) := by
  intro j
  by_cases e : k = j
  · subst e
    by_cases hk : k < zs.length
    · rw [nth_set_eq hk]; exact ⟨h0, h1⟩
    · rw [nth_out (by simp; omega)]; omega
  · rw [nth_set_ne e]; exact h j
theorem WfZ.rep (q : Nat) : WfZ (List.replicate q 0) := fun k => by rw [nth_rep]; omega

/-- The ground at p, of the configuration c, with the words and accesses s. tg, ts, e: the types. -/
structure Grd (tg ts e : TypeId) (w : World) (p : Pl) (c : Cf) (s : St) : Prop where
  head : Blk w p.a #[.pointer (some ⟨p.s, 0, none⟩), .int .i64 (c.N : Int), .int .i64 (c.W : Int), .int .i64 (c.R : Int), .int .i64 (c.K : Int)] tg
  st : Sto w ts e p.s p.g s.zs (u64m s.m)
  len : s.zs.length = c.size
  as_ : p.a ≠ p.s
  ag : p.a ≠ p.g
  may : c.May
  wf : WfZ s.zs
/-- The ground's blocks that calls may change. -/
def inG (p : Pl) : Nat → Prop := inSto p.s p.g
/-- .. and all its blocks. -/
def ofG (p : Pl) : Nat → Prop := fun k => k = p.a ∨ inSto p.s p.g k

theorem Grd.touch {tg ts e : TypeId} {X : Nat → Prop} {w w' : World} {p : Pl} {c : Cf} {s : St} (h : Grd tg ts e w p c s) (k : Touch X w w') (hX : ∀ b, ofG p b → ¬ X b) : Grd tg ts e w' p c s :=
  ⟨h.head.touch k (hX _ (.inl rfl)), h.st.touch k (hX _ (.inr (.inl rfl))) (hX _ (.inr (.inr rfl))), h.len, h.as_, h.ag, h.may, h.wf⟩
theorem Grd.later {tg ts e : TypeId} {w w' : World} {p : Pl} {c : Cf} {s : St} (h : Grd tg ts e w p c s) (k : Below w.heap.size w w') : Grd tg ts e w' p c s :=
  ⟨h.head.later k, h.st.later k, h.len, h.as_, h.ag, h.may, h.wf⟩
theorem Grd.drew {tg ts e : TypeId} {w : World} {p : Pl} {c : Cf} {s : St} (h : Grd tg ts e w p c s) : Grd tg ts e w.drew p c s := ⟨h.head.drew, h.st.drew, h.len, h.as_, h.ag, h.may, h.wf⟩
theorem Grd.alloc {tg ts e : TypeId} {w : World} {p : Pl} {c : Cf} {s : St} (h : Grd tg ts e w p c s) (o : Obj) : Grd tg ts e (w.alloc o) p c s := ⟨h.head.alloc o, h.st.alloc o, h.len, h.as_, h.ag, h.may, h.wf⟩
theorem Grd.drw {tg ts e : TypeId} {w w' : World} {p : Pl} {c : Cf} {s : St} (h : Grd tg ts e w p c s) (k : Drw w w') : Grd tg ts e w' p c s := h.later k.new
theorem Grd.ptr {tg ts e : TypeId} {w : World} {p : Pl} {c : Cf} {s : St} (h : Grd tg ts e w p c s) : w.cell? ⟨p.a, 0, none⟩ = some (.pointer (some ⟨p.s, 0, none⟩)) := h.head.cell 0 rfl
theorem Grd.cN {tg ts e : TypeId} {w : World} {p : Pl} {c : Cf} {s : St} (h : Grd tg ts e w p c s) : w.cell? ⟨p.a, 1, none⟩ = some (.int .i64 (c.N : Int)) := h.head.cell 1 rfl
theorem Grd.cW {tg ts e : TypeId} {w : World} {p : Pl} {c : Cf} {s : St} (h : Grd tg ts e w p c s) : w.cell? ⟨p.a, 2, none⟩ = some (.int .i64 (c.W : Int)) := h.head.cell 2 rfl
theorem Grd.cR {tg ts e : TypeId} {w : World} {p : Pl} {c : Cf} {s : St} (h : Grd tg ts e w p c s) : w.cell? ⟨p.a, 3, none⟩ = some (.int .i64 (c.R : Int)) := h.head.cell 3 rfl
theorem Grd.cK {tg ts e : TypeId} {w : World} {p : Pl} {c : Cf} {s : St} (h : Grd tg ts e w p c s) : w.cell? ⟨p.a, 4, none⟩ = some (.int .i64 (c.K : Int)) := h.head.cell 4 rfl
/-- A call has changed the store's blocks alone. -/
theorem Grd.step {tg ts e : TypeId} {w w' : World} {p : Pl} {c : Cf} {s s' : St} (h : Grd tg ts e w p c s) (hS : Sto w' ts e p.s p.g s'.zs (u64m s'.m)) (k : Touch (inG p) w w') (hl : s'.zs.length = s.zs.length) (hw : WfZ s'.zs) : Grd tg ts e w' p c s' :=
  ⟨h.head.touch k (by have := h.as_; have := h.ag; unfold inG inSto; omega), hS, hl.trans h.len, h.as_, h.ag, h.may, hw⟩

/-! ### What the ground's calls do, as functions of what it holds -/
/-- One access to the word k. -/
def St.got (s : St) : St := ⟨s.zs, s.m + 1⟩
def St.set (s : St) (k : Nat) (v : Int) : St := ⟨s.zs.set k v, s.m + 1⟩
theorem St.set_len (s : St) (k : Nat) (v : Int) : (s.set k v).zs.length = s.zs.length := by simp [St.set]

/-- A number below a bound, from 0 on. -/
def bel (n : Int) (b : Nat) : Bool := decide (0 ≤ n ∧ n < (b : Int))
theorem bel_nat {n : Int} {b : Nat} (h : bel n b = true) : ∃ k : Nat, n = (k : Int) ∧ k < b := by
  unfold bel at h
  have := of_decide_eq_true h
  exact ⟨n.toNat, by omega, by omega⟩
theorem bel_mk {k b : Nat} (h : k < b) : bel (k : Int) b = true := by unfold bel; exact decide_eq_true (by omega)
theorem bel_no {n : Int} {b : Nat} (h : bel n b = false) : n < 0 ∨ (b : Int) ≤ n := by
  unfold bel at h
  have := of_decide_eq_false h
  omega
/-- Where a register, a root slot, a block's word lies. -/
def regA (r : Int) : Option Nat := if bel r 24 then some r.toNat else none
def rootA (c : Cf) (i : Int) : Option Nat := if bel i c.R then some (24 + i.toNat) else none
def wordA (c : Cf) (b w : Int) : Option Nat := if bel b c.N && bel w c.W then some (24 + c.R + b.toNat * c.W + w.toNat) else none
theorem wordA_lt' {c : Cf} {b w : Nat} (hb : b < c.N) (hw : w < c.W) : 24 + c.R + b * c.W + w < c.size := by
  have h : (b + 1) * c.W ≤ c.N * c.W := Nat.mul_le_mul_right _ hb
  rw [Nat.add_mul, Nat.one_mul] at h
  unfold Cf.size
  omega
theorem regA_lt {c : Cf} {r : Int} {k : Nat} (h : regA r = some k) : k < c.size := by
  unfold regA at h
  split at h
  · rename_i hb
    obtain ⟨j, rfl, hj⟩ := bel_nat hb
    cases h
    unfold Cf.size
    omega
  · cases h
theorem rootA_lt {c : Cf} {i : Int} {k : Nat} (h : rootA c i = some k) : k < c.size := by
  unfold rootA at h
  split at h
  · rename_i hb
    obtain ⟨j, rfl, hj⟩ := bel_nat hb
    cases h
    unfold Cf.size
    omega
  · cases h
theorem wordA_lt {c : Cf} {b w : Int} {k : Nat} (h : wordA c b w = some k) : k < c.size := by
  unfold wordA at h
  split at h
  · rename_i hb
    rw [Bool.and_eq_true] at hb
    obtain ⟨j, rfl, hj⟩ := bel_nat hb.1
    obtain ⟨i, rfl, hi⟩ := bel_nat hb.2
    cases h
    exact wordA_lt' hj hi
  · cases h

/-- What is told of a place, and what the ground holds then. -/
def St.at? (s : St) (k : Option Nat) : Int := match k with | some k => nth s.zs k | none => 0
def St.ask (s : St) (k : Option Nat) : St := match k with | some _ => s.got | none => s
def St.put (s : St) (k : Option Nat) (v : Int) : St := match k with | some k => s.set k v | none => s
/-- May v be a word? -/
def fitsB (v : Int) : Bool := decide (0 ≤ v ∧ v ≤ 4294967295)
/-- .. of a number that may not fit. -/
def St.putN (s : St) (k : Option Nat) (v : Int) : St := if fitsB v then s.put k v else s
def putB (k : Option Nat) (v : Int) : Bool := k.isSome && fitsB v
theorem St.ask_len (s : St) (k : Option Nat) : (s.ask k).zs.length = s.zs.length := by cases k <;> rfl
theorem St.put_len (s : St) (k : Option Nat) (v : Int) : (s.put k v).zs.length = s.zs.length := by cases k with | none => rfl | some k => exact s.set_len k v
theorem St.putN_len (s : St) (k : Option Nat) (v : Int) : (s.putN k v).zs.length = s.zs.length := by unfold St.putN; split; exact s.put_len k v; rfl

theorem St.at?_wf {s : St} (h : WfZ s.zs) (k : Option Nat) : 0 ≤ s.at? k ∧ s.at? k ≤ 4294967295 := by
  cases k with
  | none => show (0:Int) ≤ 0 ∧ (0:Int) ≤ 4294967295; decide
  | some k => exact h k
theorem fitsB_yes {v : Int} (h : fitsB v = true) : 0 ≤ v ∧ v ≤ 4294967295 := of_decide_eq_true h
theorem fitsB_mk {v : Int} (h0 : 0 ≤ v) (h1 : v ≤ 4294967295) : fitsB v = true := decide_eq_true ⟨h0, h1⟩

/-- A call on a ground: what it returns, and the ground then. -/
def GPost (tg ts e : TypeId) (w : World) (p : Pl) (c : Cf) (s : St) (v : Value) (en : Ending) (w' : World) : Prop :=
  en = .returned v ∧ Grd tg ts e w' p c s ∧ Touch (inG p) w w'

end Go.Proofs.Ytgfpcamgebnfmaa.Pk
