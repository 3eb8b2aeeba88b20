/-
  Texts laid together: Chains, LawKit, Obj, Wld, CountMath, HeapRing, RepW, Pool, ObjLaw, ObjApartF, MakeMath, Chain, RingLaw.
-/
import Derived.Test.YtljdbaddockfcaaGreatRefChain
import Derived.Test.YtljdbaddockfcaaGreatGroFnEtc
import Derived.BigQuiet
import Derived.Test.YtljdbaddockfcaaGreatBaseEtc
import Derived.Test.YtljdbaddockfcaaGreatObjMath
/-
  The document's chains: Of, Set, Stands; the law's own stands.
-/
namespace Go.Proofs.YtljdbaddockfcaaGreat.Pk
open Go.RowKit
set_option linter.unusedVariables false
set_option linter.unusedSimpArgs false

theorem Drw.trans {a b c : World} (h : Drw a b) (k : Drw b c) : Drw a c := by
  obtain ⟨m, rfl⟩ := h; obtain ⟨m', rfl⟩ := k; exact ⟨m + m', World.drewN_drewN _ _ _⟩
/-- Blocks' numbers as numbers. -/
def ints (l : List Nat) : List Int := l.map (fun n : Nat => (n : Int))
theorem ints_length (l : List Nat) : (ints l).length = l.length := by simp [ints]
theorem ints_nth {l : List Nat} {i : Nat} (h : i < l.length) : nth (ints l) i = (l[i] : Int) := by unfold nth ints; simp [List.getD, h]
/-! ### The law's own look at registers and links -/
end Go.Proofs.YtljdbaddockfcaaGreat.Pk

/-
  What the laws over a ground have in common: their configurations, their rows, looks at the meter, arrays of their own.
-/
namespace Go.Proofs.YtljdbaddockfcaaGreat.Pk
open Go.RowKit
set_option linter.unusedVariables false
set_option linter.unusedSimpArgs false

/-- A new row of blocks' numbers. -/
def NewNats (l : List Nat) (w : World) (e : Ending) (w' : World) : Prop :=
  ∃ a cap, e = .returned (.slice a l.length cap) ∧ Row w' .i64 a (ints l) ∧ (∀ b off, a = some ⟨b, off, none⟩ → w.heap.size ≤ b) ∧ Below w.heap.size w w'
/-- The law's configuration. -/
def cfR (n : Nat) : Cf := ⟨n, 16, 1, 1⟩
theorem cfR_may {n : Nat} (h0 : 1 ≤ n) (h1 : n ≤ 1000) : (cfR n).May := by constructor <;> simp [cfR] <;> omega
/-- Kinds. -/
def Kinds (ks : List Int) : Prop := ∀ j, 0 ≤ nth ks j ∧ nth ks j < 256
theorem seewordB (p : Pl) (c : Cf) (s : St) (b v : Nat) (x z y : Int) (w : World) (hG : G w p c s) (hb : b < c.N) (hv : v < c.W) (hx : x = (b : Int)) (hz : z = (v : Int)) (hy : nth s.zs (adr c b v) = y) :
    Calls Tryz.prog 125 #[.pointer (some ⟨p.a, 0, none⟩), .int .i64 x, .int .i64 z] w fun e w' => e = .returned (.int .u32 y) ∧ Below w.heap.size w w' :=
  (seewordW p c s b v x z y w hG hb hv hx hz hy).mono fun e w' h => ⟨h.1, h.2.new⟩
theorem NewRow.nats {w w' : World} {l : List Nat} {zs : List Int} {e : Ending} (h : NewRow w zs e w') (hz : zs = Pk.ints l) : NewNats l w e w' := by
  subst hz
  obtain ⟨a, cap, h1, h2, h3, h4⟩ := h
  rw [ints_length] at h1
  exact ⟨a, cap, h1, h2, h3, h4⟩
theorem rRest (a : Option Addr) (cap : Nat) (b : Nat) (l : List Nat) (w : World) (hr : Row w .i64 a (ints (b :: l))) (hl : (b :: l).length ≤ 9000) :
    Calls Tryz.prog 148 #[.slice a (b :: l).length cap] w (NewNats l w) := by
  have := rcRest_any a cap (ints (b :: l)) w hr (by rw [ints_length]; omega) (by rw [ints_length]; simp)
  rw [ints_length] at this
  exact this.mono (fun e w' h => h.nats (by simp [ints]))
theorem Kinds.of {ks : List Int} (h : ∀ x, x ∈ ks → 0 ≤ x ∧ x < 256) : Kinds ks := by
  intro j
  by_cases hj : j < ks.length
  · unfold nth; simp [List.getD, hj]; exact h _ (List.getElem_mem hj)
  · rw [nth_out (by omega)]; omega
end Go.Proofs.YtljdbaddockfcaaGreat.Pk

/-
  What the functions of package obj must return for the laws (a bundle; ObjFn proves it of the landed code).
-/
namespace Go.Proofs.YtljdbaddockfcaaGreat.Pk
open Go.RowKit
set_option linter.unusedVariables false
set_option linter.unusedSimpArgs false

/-- The object of a reference. -/
def obAt (os : List Ob) (r : Int) : Option Ob := os.find? (fun o => decide ((o.h : Int) + 1 = r))
theorem obAt_some {os : List Ob} {r : Int} {o : Ob} (h : obAt os r = some o) : o ∈ os ∧ (o.h : Int) + 1 = r :=
  ⟨List.mem_of_find?_eq_some h, by have := List.find?_some h; simpa using this⟩
theorem obAt_none {os : List Ob} {r : Int} (h : obAt os r = none) : ∀ o, o ∈ os → (o.h : Int) + 1 ≠ r := by
  intro o ho e
  have := (List.find?_eq_none.1 h) o ho
  simp at this
  exact this e
theorem HeapAt.obAt {c : Cf} {zs : List Int} {pool : List Nat} {os : List Ob} (h : HeapAt c zs pool os) {o : Ob} (ho : o ∈ os) : obAt os ((o.h : Int) + 1) = some o := by
  cases hc : Pk.obAt os ((o.h : Int) + 1) with
  | none => exact absurd rfl (obAt_none hc o ho)
  | some o' =>
    obtain ⟨h1, h2⟩ := obAt_some hc
    have : o'.h = o.h := by omega
    rw [h.own h1 ho (b := o'.h) (by unfold Ob.blocks; simp) (by rw [this]; unfold Ob.blocks; simp)]
/-- A reference that is a number of Go's. -/
def In64 (r : Int) : Prop := -9223372036854775808 ≤ r ∧ r ≤ 9223372036854775807
instance (r : Int) : Decidable (In64 r) := by unfold In64; infer_instance
theorem ref64 {c : Cf} (hm : c.May) {h : Nat} (hh : h < c.N) : In64 ((h : Int) + 1) := by
  have := hm.n
  unfold In64; omega
theorem HeapAt.in64 {c : Cf} {zs : List Int} {pool : List Nat} {os : List Ob} (h : HeapAt c zs pool os) (hm : c.May) {o : Ob} (ho : o ∈ os) : In64 ((o.h : Int) + 1) :=
  ref64 hm (h.lt ho (b := o.h) (by unfold Ob.blocks; simp))
/-- What is wrong with a pointer field, a word. -/
def ptrE (c : Cf) (os : List Ob) (r i : Int) : Int := match obAt os r with | none => 8 | some o => if bel i o.np && (fieldA c o i.toNat).isSome then 0 else 7
def ptrV (c : Cf) (zs : List Int) (os : List Ob) (r i : Int) : Int := match obAt os r with | none => 0 | some o => if bel i o.np then fldV c zs o i.toNat else 0
def blkN (os : List Ob) (r : Int) : Int := match obAt os r with | none => 0 | some o => 1 + (o.lv.length : Int)
/-- What is seen of an object. -/
def ptrL (c : Cf) (zs : List Int) (o : Ob) : List Int := (List.range o.np).map (fun i => fldV c zs o i)
def dataL (c : Cf) (zs : List Int) (o : Ob) : List Int := (List.range o.nd).map (fun i => fldV c zs o (o.np + i))
theorem ptrL_length (c : Cf) (zs : List Int) (o : Ob) : (ptrL c zs o).length = o.np := by simp [ptrL]
theorem dataL_length (c : Cf) (zs : List Int) (o : Ob) : (dataL c zs o).length = o.nd := by simp [dataL]
def SeeQ (c : Cf) (zs : List Int) (o : Ob) (w : World) (e : Ending) (w' : World) : Prop :=
  ∃ a1 c1 a2 c2, e = .returned (.tuple #[.agg #[.slice a1 o.np c1, .slice a2 o.nd c2], .bool true]) ∧ OwnR w' .i64 a1 (ptrL c zs o) ∧ OwnR w' .u32 a2 (dataL c zs o) ∧ (∀ b off, a1 = some ⟨b, off, none⟩ → w.heap.size ≤ b) ∧ (∀ b off, a2 = some ⟨b, off, none⟩ → w.heap.size ≤ b) ∧
    (∀ b off b' off', a1 = some ⟨b, off, none⟩ → a2 = some ⟨b', off', none⟩ → b ≠ b') ∧ Below w.heap.size w w' ∧ (∀ b off, a1 = some ⟨b, off, none⟩ → b < w'.heap.size) ∧ ∀ b off, a2 = some ⟨b, off, none⟩ → b < w'.heap.size
/-- A new object. -/
def newOb (h np nd : Nat) (ls : List Nat) : Ob := ⟨h, np, nd, ls.map (· + 1)⟩
/-- What is left when an object was made of these blocks. -/
structure MadeOb (c : Cf) (zs zs' : List Int) (pool : List Nat) (os : List Ob) (o : Ob) : Prop where
  heap : HeapAt c zs' pool (os ++ [o])
  tag : nth zs' (adr c o.h 0) = if o.f ≤ c.W - 8 then 1 else 2
  own : ∀ v, 3 ≤ v → v < 8 → nth zs' (adr c o.h v) = 0
  fld : ∀ i, i < o.f → fldV c zs' o i = 0
  out : ∀ i, ¬ i < 3 → (∀ b, b ∈ o.blocks → ¬ inBlk c b i) → nth zs' i = nth zs i
def shedOb (o : Ob) (j : Nat) : Ob := { o with lv := o.lv.set j 0 }
def shedOs (os : List Ob) (o : Ob) (j : Nat) : List Ob := os.map (fun x => if x.h = o.h then shedOb x j else x)

/-- What package obj's functions return. -/
structure ObjFns : Prop where
  make_size : ∀ (c : Cf) (zs : List Int) (p d : Int), Wz c zs → sizeE c.W p d ≠ 0 → ∃ B, Acts c 54 [.int .i64 p, .int .i64 d] zs B zs (.tuple #[.int .i64 0, .int .i64 (sizeE c.W p d)])
  make_full : ∀ (c : Cf) (zs : List Int) (pool : List Nat) (os : List Ob) (p d : Int), Wz c zs → HeapAt c zs pool os → sizeE c.W p d = 0 → (pool.length : Int) < blocksV c.W p d → ∃ B, Acts c 54 [.int .i64 p, .int .i64 d] zs B zs (.tuple #[.int .i64 0, .int .i64 4])
  make_yes : ∀ (c : Cf) (zs : List Int) (h : Nat) (ls pool : List Nat) (os : List Ob) (p d : Nat), Wz c zs → HeapAt c zs (h :: ls ++ pool) os → sizeE c.W p d = 0 → (1 + ls.length : Int) = blocksV c.W p d →
    ∃ B zs', Acts c 54 [.int .i64 (p : Int), .int .i64 (d : Int)] zs B zs' (.tuple #[.int .i64 ((h : Int) + 1), .int .i64 0]) ∧ MadeOb c zs zs' pool os (newOb h p d ls)
  is_ : ∀ (c : Cf) (zs : List Int) (pool : List Nat) (os : List Ob) (r : Int), Wz c zs → HeapAt c zs pool os → In64 r → Acts c 14 [.int .i64 r] zs 12 zs (.bool (obAt os r).isSome)
  lens_yes : ∀ (c : Cf) (zs : List Int) (pool : List Nat) (os : List Ob) (r : Int) (o : Ob), Wz c zs → HeapAt c zs pool os → obAt os r = some o → Acts c 114 [.int .i64 r] zs 12 zs (.tuple #[.int .i64 (o.np : Int), .int .i64 (o.nd : Int), .int .i64 0])
  lens_no : ∀ (c : Cf) (zs : List Int) (pool : List Nat) (os : List Ob) (r : Int), Wz c zs → HeapAt c zs pool os → In64 r → obAt os r = none → Acts c 114 [.int .i64 r] zs 12 zs (.tuple #[.int .i64 0, .int .i64 0, .int .i64 8])
  ptr : ∀ (c : Cf) (zs : List Int) (pool : List Nat) (os : List Ob) (r i : Int), Wz c zs → HeapAt c zs pool os → In64 r → Acts c 55 [.int .i64 r, .int .i64 i] zs 12 zs (.tuple #[.int .i64 (ptrV c zs os r i), .int .i64 (ptrE c os r i)])
  setptr_yes : ∀ (c : Cf) (zs : List Int) (pool : List Nat) (os : List Ob) (o : Ob) (i a : Nat) (x : Int), Wz c zs → HeapAt c zs pool os → o ∈ os → i < o.np → fieldA c o i = some a → 0 ≤ x → x ≤ (c.N : Int) → Acts c 56 [.int .i64 ((o.h : Int) + 1), .int .i64 (i : Int), .int .i64 x] zs 12 (zs.set a x) (.int .i64 0)
  setptr_no : ∀ (c : Cf) (zs : List Int) (pool : List Nat) (os : List Ob) (r i x : Int), Wz c zs → HeapAt c zs pool os → In64 r → ptrE c os r i ≠ 0 → Acts c 56 [.int .i64 r, .int .i64 i, .int .i64 x] zs 12 zs (.int .i64 (ptrE c os r i))
  setptr_arg : ∀ (c : Cf) (zs : List Int) (pool : List Nat) (os : List Ob) (r i x : Int), Wz c zs → HeapAt c zs pool os → In64 r → ptrE c os r i = 0 → ¬ (0 ≤ x ∧ x ≤ (c.N : Int)) → Acts c 56 [.int .i64 r, .int .i64 i, .int .i64 x] zs 12 zs (.int .i64 2)
  blocks : ∀ (c : Cf) (zs : List Int) (pool : List Nat) (os : List Ob) (r : Int), Wz c zs → HeapAt c zs pool os → In64 r → Acts c 18 [.int .i64 r] zs 12 zs (.int .i64 (blkN os r))
  shed_yes : ∀ (c : Cf) (zs : List Int) (pool : List Nat) (os : List Ob) (o : Ob) (j b : Nat), Wz c zs → HeapAt c zs pool os → o ∈ os → o.lv[j]? = some (b + 1) →
    ∃ B zs', Acts c 119 [.int .i64 ((o.h : Int) + 1), .int .i64 (j : Int)] zs B zs' (.bool true) ∧ HeapAt c zs' (b :: pool) (shedOs os o j) ∧ ∀ i, ¬ i < 3 → i ≠ adr c o.h (8 + j) → i ≠ adr c b 0 → i ≠ adr c b 5 → nth zs' i = nth zs i
  shed_no : ∀ (c : Cf) (zs : List Int) (pool : List Nat) (os : List Ob) (r j : Int), Wz c zs → HeapAt c zs pool os → In64 r → (∀ o, obAt os r = some o → ∀ k b : Nat, j = (k : Int) → o.lv[k]? ≠ some (b + 1)) → ∃ B, Acts c 119 [.int .i64 r, .int .i64 j] zs B zs (.bool false)
  end_yes : ∀ (c : Cf) (zs : List Int) (pool : List Nat) (os : List Ob) (o : Ob), Wz c zs → HeapAt c zs pool os → o ∈ os → o.leaves = [] →
    ∃ B zs', Acts c 121 [.int .i64 ((o.h : Int) + 1)] zs B zs' (.bool true) ∧ HeapAt c zs' (o.h :: pool) (os.filter (fun x => x.h != o.h)) ∧ ∀ i, ¬ i < 3 → i ≠ adr c o.h 0 → i ≠ adr c o.h 5 → nth zs' i = nth zs i
  end_no : ∀ (c : Cf) (zs : List Int) (pool : List Nat) (os : List Ob) (r : Int), Wz c zs → HeapAt c zs pool os → In64 r → obAt os r = none → ∃ B, Acts c 121 [.int .i64 r] zs B zs (.bool false)
  see_yes : ∀ (c : Cf) (zs : List Int) (pool : List Nat) (os : List Ob) (o : Ob), Wz c zs → HeapAt c zs pool os → o ∈ os → Looks c 62 [.int .i64 ((o.h : Int) + 1)] zs (SeeQ c zs o)
  see_no : ∀ (c : Cf) (zs : List Int) (pool : List Nat) (os : List Ob) (r : Int), Wz c zs → HeapAt c zs pool os → In64 r → obAt os r = none → Looks c 62 [.int .i64 r] zs (fun w e w' => e = .returned (.tuple #[.agg #[.slice none 0 0, .slice none 0 0], .bool false]) ∧ Below w.heap.size w w')

end Go.Proofs.YtljdbaddockfcaaGreat.Pk

/-
  The document's world of layers 12 and up, as plain data: all objects that there were, what is known of each, and an epoch's numbers. No program in sight.
-/
namespace Go.Proofs.YtljdbaddockfcaaGreat.Pk
open Go.RowKit
set_option linter.unusedVariables false
set_option linter.unusedSimpArgs false

/-- What is known of an object, besides its fields. -/
structure Mrk where
  refs : Int
  color : Int
  count : Int
  shade : Int
  shadow : Int
  dead : Bool
  left : Int
  leaves : Int
def Mrk.new : Mrk := ⟨0, 0, 0, 0, 0, false, 0, 0⟩
/-- An object: its head's block, its leaves' (-1: shed), its fields, whether it was ended, and what is known of it. -/
structure Th where
  h : Nat
  lv : List Int
  pt : List Int
  dt : List Int
  ended : Bool
  mr : Mrk
structure Wd where
  n : Nat
  w : Nat
  clean : List Nat
  ts : List Th
  parity : Int
  phase : Int
  cursor : Int
  field : Int
  scan : Int
  scanF : Int
  suspect : Int
  units : Int
  epochs : Int
  ring : List Nat
  grave : List Nat
  pending : Int
/-- A new world. -/
def Wd.new (n w : Nat) : Wd := ⟨n, w, List.range n, [], 0, 0, 0, 0, 0, 0, 0, 0, 0, [], [], 0⟩
/-- Is this the object of the reference r? -/
def Th.at (t : Th) (r : Int) : Bool := !t.ended && decide ((t.h : Int) + 1 = r)
def ixL (r : Int) : List Th → Option Nat
  | [] => none
  | t :: l => if t.at r then some 0 else (ixL r l).map (· + 1)
def findL (r : Int) : List Th → Option Th
  | [] => none
  | t :: l => if t.at r then some t else findL r l
def Wd.find (D : Wd) (r : Int) : Option Th := findL r D.ts
/-- The object of a reference is changed. -/
def updL (r : Int) (f : Th → Th) : List Th → List Th
  | [] => []
  | t :: l => if t.at r then f t :: l else t :: updL r f l
def Wd.upd (D : Wd) (r : Int) (f : Th → Th) : Wd := { D with ts := updL r f D.ts }
/-- What is known of the object of a reference is changed. -/
def Wd.mark (D : Wd) (r : Int) (f : Mrk → Mrk) : Wd := D.upd r (fun t => { t with mr := f t.mr })

theorem ixL_some {r : Int} : ∀ {l : List Th} {i : Nat}, ixL r l = some i → ∃ t, l[i]? = some t ∧ t.at r = true ∧ ∀ (j : Nat) (u : Th), j < i → l[j]? = some u → u.at r = false
  | [], i, h => by simp [ixL] at h
  | t :: l, i, h => by
    unfold ixL at h
    cases ht : t.at r with
    | true =>
      simp [ht] at h
      subst h
      exact ⟨t, rfl, ht, fun j u hj => absurd hj (by omega)⟩
    | false =>
      simp [ht] at h
      obtain ⟨k, hk, rfl⟩ := h
      obtain ⟨u, h1, h2, h3⟩ := ixL_some hk
      refine ⟨u, by simpa using h1, h2, fun j v hj hv => ?_⟩
      cases j with
      | zero => simp at hv; subst hv; exact ht
      | succ j => exact h3 j v (by omega) (by simpa using hv)
theorem find_ix {r : Int} : ∀ {l : List Th}, findL r l = (ixL r l).bind (fun i => l[i]?)
  | [] => rfl
  | t :: l => by
    unfold findL ixL
    cases h : t.at r with
    | true => simp
    | false =>
      simp [find_ix (l := l)]
      cases ixL r l <;> simp
theorem upd_ix {r : Int} {f : Th → Th} : ∀ {l : List Th} {i : Nat} {t : Th}, ixL r l = some i → l[i]? = some t → updL r f l = l.set i (f t)
  | [], i, t, h, _ => by simp [ixL] at h
  | u :: l, i, t, h, ht => by
    unfold ixL at h
    unfold updL
    cases hu : u.at r with
    | true =>
      simp [hu] at h
      subst h
      simp at ht
      subst ht
      simp
    | false =>
      simp [hu] at h
      obtain ⟨k, hk, rfl⟩ := h
      simp
      exact upd_ix hk (by simpa using ht)
theorem upd_none {r : Int} {f : Th → Th} : ∀ {l : List Th}, ixL r l = none → updL r f l = l
  | [], _ => rfl
  | u :: l, h => by
    unfold ixL at h
    unfold updL
    cases hu : u.at r with
    | true => simp [hu] at h
    | false =>
      simp [hu] at h
      simp
      exact upd_none h
theorem find_some {r : Int} {l : List Th} {t : Th} (h : findL r l = some t) : ∃ i, ixL r l = some i ∧ l[i]? = some t := by
  rw [find_ix] at h
  cases hi : ixL r l with
  | none => rw [hi] at h; cases h
  | some i => rw [hi] at h; exact ⟨i, rfl, h⟩
theorem find_none {r : Int} {l : List Th} (h : findL r l = none) : ixL r l = none := by
  rw [find_ix] at h
  cases hi : ixL r l with
  | none => rfl
  | some i =>
    rw [hi] at h
    obtain ⟨t, ht, _⟩ := ixL_some hi
    simp [ht] at h
theorem find_at {r : Int} {l : List Th} {t : Th} (h : findL r l = some t) : t ∈ l ∧ t.ended = false ∧ (t.h : Int) + 1 = r := by
  obtain ⟨i, hi, ht⟩ := find_some h
  obtain ⟨u, hu, ha, _⟩ := ixL_some hi
  rw [ht] at hu
  cases hu
  unfold Th.at at ha
  simp at ha
  exact ⟨List.mem_of_getElem? ht, ha.1, ha.2⟩

theorem mark_none {D : Wd} {r : Int} (f : Mrk → Mrk) (h : D.find r = none) : D.mark r f = D := by
  unfold Wd.mark Wd.upd
  rw [upd_none (find_none h)]
/-! ### What layers 12 and 13 say -/
section
variable (D : Wd) (r : Int)
def Wd.cnt : Int := match D.find r with | none => 0 | some t => t.mr.refs
def Wd.dead : Bool := match D.find r with | none => false | some t => t.mr.dead
def Wd.black : Bool := match D.find r with | none => false | some t => decide (t.mr.color = D.parity)
def Wd.shd : Int := match D.find r with | none => 0 | some t => if t.mr.shade = D.parity then t.mr.shadow else 0
def Wd.counted (i : Int) : Bool := match D.find r with | none => false | some t => decide (0 ≤ i) && (decide (t.mr.count = D.parity) || (decide (D.phase = 1) && decide (D.cursor = r - 1) && decide (i < D.field)))
def Wd.begin (ph : Int) : Wd := { D with phase := ph, cursor := 0, field := 0, scan := 0, scanF := 0 }
def phB (ph : Int) : Bool := decide (0 ≤ ph ∧ ph ≤ 3)
def Wd.beginT (ph : Int) : Wd := if phB ph then D.begin ph else D
def mvB (c f : Int) : Bool := decide ((0 ≤ c ∧ c ≤ 4294967295) ∧ 0 ≤ f ∧ f ≤ 4294967295)
def Wd.move (c f : Int) : Wd := { D with cursor := c, field := f }
def Wd.moveT (c f : Int) : Wd := if mvB c f then D.move c f else D
def Wd.turn : Wd := { D with parity := 1 - D.parity }
def Wd.dye : Wd := D.mark r (fun m => { m with color := D.parity, count := D.parity, shade := D.parity, shadow := 0 })
def Wd.paint : Wd := D.mark r (fun m => { m with color := D.parity })
def Wd.kill : Wd := D.mark r (fun m => { m with dead := true })
def Wd.done : Wd := D.mark r (fun m => { m with count := D.parity })
/-- Is it touched by that? -/
def Wd.toucht : Bool := match D.find r with | none => false | some t => !decide (D.phase = 0) && !t.mr.dead && !decide (t.mr.color = D.parity)
def Wd.touch : Wd := if D.toucht r then { D.paint r with ring := if hasB (ints D.ring) (r - 1) then D.ring else D.ring ++ [(r - 1).toNat] } else D
def Wd.deepen : Wd := D.mark r (fun m => { m with shade := D.parity, shadow := D.shd r + 1 })
def Wd.lighter : Bool := (decide (D.phase = 1) || decide (D.phase = 2)) && !D.black r && !decide (D.shd r = 0)
def Wd.lighten : Wd := if D.lighter r then D.mark r (fun m => { m with shadow := m.shadow - 1 }) else D
def Wd.up : Wd := D.mark r (fun m => { m with refs := m.refs + 1 })
def Wd.down : Wd := D.mark r (fun m => { m with refs := m.refs - 1 })
end
end Go.Proofs.YtljdbaddockfcaaGreat.Pk

/-
  Words of an object's head that are no fields: its count, its shadow, its links, its marks. What is left when one is set. No program in sight.
-/
namespace Go.Proofs.YtljdbaddockfcaaGreat.Pk
open Go.RowKit
set_option linter.unusedVariables false
set_option linter.unusedSimpArgs false

section
variable {c : Cf} {zs : List Int} {o o' : Ob} {pool : List Nat} {os : List Ob}
theorem Ob.head_mem (o : Ob) : o.h ∈ o.blocks := by unfold Ob.blocks; simp
/-- No field lies in the words 0 to 7 of a head. -/
theorem HeapAt.field_ne (h : HeapAt c zs pool os) (hm : c.May) (ho : o ∈ os) (ho' : o' ∈ os) {i a v : Nat} (hi : i < o'.f) (ha : fieldA c o' i = some a) (hv : v < 8) : a ≠ adr c o.h v := by
  have hw := hm.w
  unfold fieldA at ha
  cases hp : fieldP c o' i with
  | none => rw [hp] at ha; cases ha
  | some q =>
    rw [hp] at ha
    simp at ha
    obtain ⟨q1, q2, q3⟩ := fieldP_off hm hi hp
    intro e
    rw [← ha] at e
    obtain ⟨e1, e2⟩ := adr_inj q2 (by omega) e
    have hmem := fieldP_mem hp
    rw [e1] at hmem
    obtain rfl := h.own ho ho' o.head_mem hmem
    by_cases hs : o.f ≤ c.W - 8
    · have := q3 e1 hs
      omega
    · unfold fieldP at hp
      rw [if_neg hs] at hp
      split at hp
      · rename_i b hb
        cases hp
        simp at e1
        exact (List.nodup_cons.1 (h.ownB ho)).1 (by rw [← e1]; exact Ob.mem_leaves.2 (List.mem_of_getElem? hb))
      · cases hp
/-- One of the words 3 to 7 of a head is set. -/
theorem HeapAt.setOwn (h : HeapAt c zs pool os) (hm : c.May) (hz : zs.length = c.size) (ho : o ∈ os) {v : Nat} (h3 : 3 ≤ v) (h8 : v < 8) (x : Int) :
    HeapAt c (zs.set (adr c o.h v) x) pool os ∧ (∀ o' i, o' ∈ os → i < o'.f → fldV c (zs.set (adr c o.h v) x) o' i = fldV c zs o' i) := by
  have hw := hm.w
  have hA := h.obs o ho
  have hO : BlkOnly c o.h zs (zs.set (adr c o.h v) x) := BlkOnly.set (by omega) x
  have hne : ∀ b u, u < c.W → (b ≠ o.h ∨ u ≠ v) → nth (zs.set (adr c o.h v) x) (adr c b u) = nth zs (adr c b u) := fun b u hu hn => by
    rw [nth_set_ne]
    intro e
    have := adr_inj (by omega) hu e
    rcases hn with hn | hn
    · exact hn this.1.symm
    · exact hn this.2.symm
  refine ⟨⟨h.pl.only hm (h.notPool ho o.head_mem) hO, fun o' ho' => ?_, h.perm⟩, fun o' i ho' hi => ?_⟩
  · have hA' := h.obs o' ho'
    refine hA'.congr ?_ ?_ ?_ (fun j hj => ?_) (fun b hb => ?_)
    · rw [hne _ 0 (by omega) (.inr (by omega))]; exact ⟨hA'.tok, rfl⟩
    · exact hne _ 1 (by omega) (.inr (by omega))
    · exact hne _ 2 (by omega) (.inr (by omega))
    · have hl := hA'.lvW hm
      exact hne _ (8 + j) (by omega) (.inr (by omega))
    · exact hne _ 0 (by omega) (.inr (by omega))
  · unfold fldV
    cases hf : fieldA c o' i with
    | none => rfl
    | some a => exact nth_set_ne (fun e => h.field_ne hm ho ho' hi hf h8 e.symm) x
/-- A head's tag is set, of the same kind. -/
theorem HeapAt.setTag (h : HeapAt c zs pool os) (hm : c.May) (hz : zs.length = c.size) (ho : o ∈ os) {x : Int} (hx : TagOk x) (hk : uK x = uK (nth zs (adr c o.h 0))) :
    HeapAt c (zs.set (adr c o.h 0) x) pool os ∧ (∀ o' i, o' ∈ os → i < o'.f → fldV c (zs.set (adr c o.h 0) x) o' i = fldV c zs o' i) := by
  have hw := hm.w
  have hA := h.obs o ho
  have hO : BlkOnly c o.h zs (zs.set (adr c o.h 0) x) := BlkOnly.set (by omega) x
  have hne : ∀ b u, u < c.W → (b ≠ o.h ∨ u ≠ 0) → nth (zs.set (adr c o.h 0) x) (adr c b u) = nth zs (adr c b u) := fun b u hu hn => by
    rw [nth_set_ne]
    intro e
    have := adr_inj (by omega) hu e
    rcases hn with hn | hn
    · exact hn this.1.symm
    · exact hn this.2.symm
  have hself : nth (zs.set (adr c o.h 0) x) (adr c o.h 0) = x := nth_set_eq (by rw [hz]; exact adr_lt hA.hlt (by omega)) x
  refine ⟨⟨h.pl.only hm (h.notPool ho o.head_mem) hO, fun o' ho' => ?_, h.perm⟩, fun o' i ho' hi => ?_⟩
  · have hA' := h.obs o' ho'
    refine hA'.congr ?_ ?_ ?_ (fun j hj => ?_) (fun b hb => ?_)
    · by_cases e : o'.h = o.h
      · rw [e, hself, hk]; exact ⟨hx, rfl⟩
      · rw [hne _ 0 (by omega) (.inl e)]; exact ⟨hA'.tok, rfl⟩
    · exact hne _ 1 (by omega) (.inr (by omega))
    · exact hne _ 2 (by omega) (.inr (by omega))
    · have hl := hA'.lvW hm
      exact hne _ (8 + j) (by omega) (.inr (by omega))
    · refine hne _ 0 (by omega) (.inl ?_)
      intro e
      have hb' : b ∈ o'.blocks := by unfold Ob.blocks; exact List.mem_cons_of_mem _ (Ob.mem_leaves.2 hb)
      obtain rfl := h.own ho ho' o.head_mem (by rw [← e]; exact hb')
      exact (List.nodup_cons.1 (h.ownB ho)).1 (by rw [← e]; exact Ob.mem_leaves.2 hb)
  · unfold fldV
    cases hf : fieldA c o' i with
    | none => rfl
    | some a => exact nth_set_ne (fun e => h.field_ne hm ho ho' hi hf (v := 0) (by omega) e.symm) x
end

/-- What package count's functions return (a bundle). -/
structure CountFns : Prop where
  of_yes : ∀ (c : Cf) (zs : List Int) (pool : List Nat) (os : List Ob) (o : Ob), Wz c zs → HeapAt c zs pool os → o ∈ os → Acts c 15 [.int .i64 ((o.h : Int) + 1)] zs 8 zs (.int .i64 (nth zs (adr c o.h 3)))
  of_no : ∀ (c : Cf) (zs : List Int) (pool : List Nat) (os : List Ob) (r : Int), Wz c zs → HeapAt c zs pool os → In64 r → obAt os r = none → Acts c 15 [.int .i64 r] zs 8 zs (.int .i64 0)
  up_yes : ∀ (c : Cf) (zs : List Int) (pool : List Nat) (os : List Ob) (o : Ob), Wz c zs → HeapAt c zs pool os → o ∈ os → nth zs (adr c o.h 3) < 4294967295 → Acts c 57 [.int .i64 ((o.h : Int) + 1)] zs 8 (zs.set (adr c o.h 3) (nth zs (adr c o.h 3) + 1)) (.tuple #[.int .i64 (nth zs (adr c o.h 3) + 1), .bool true])
  up_max : ∀ (c : Cf) (zs : List Int) (pool : List Nat) (os : List Ob) (o : Ob), Wz c zs → HeapAt c zs pool os → o ∈ os → ¬ nth zs (adr c o.h 3) < 4294967295 → Acts c 57 [.int .i64 ((o.h : Int) + 1)] zs 8 zs (.tuple #[.int .i64 0, .bool false])
  up_no : ∀ (c : Cf) (zs : List Int) (pool : List Nat) (os : List Ob) (r : Int), Wz c zs → HeapAt c zs pool os → In64 r → obAt os r = none → Acts c 57 [.int .i64 r] zs 8 zs (.tuple #[.int .i64 0, .bool false])
  down_yes : ∀ (c : Cf) (zs : List Int) (pool : List Nat) (os : List Ob) (o : Ob), Wz c zs → HeapAt c zs pool os → o ∈ os → nth zs (adr c o.h 3) ≠ 0 → Acts c 154 [.int .i64 ((o.h : Int) + 1)] zs 8 (zs.set (adr c o.h 3) (nth zs (adr c o.h 3) - 1)) (.tuple #[.int .i64 (nth zs (adr c o.h 3) - 1), .bool true])
  down_zero : ∀ (c : Cf) (zs : List Int) (pool : List Nat) (os : List Ob) (o : Ob), Wz c zs → HeapAt c zs pool os → o ∈ os → nth zs (adr c o.h 3) = 0 → Acts c 154 [.int .i64 ((o.h : Int) + 1)] zs 8 zs (.tuple #[.int .i64 0, .bool false])
  down_no : ∀ (c : Cf) (zs : List Int) (pool : List Nat) (os : List Ob) (r : Int), Wz c zs → HeapAt c zs pool os → In64 r → obAt os r = none → Acts c 154 [.int .i64 r] zs 8 zs (.tuple #[.int .i64 0, .bool false])
  see_yes : ∀ (c : Cf) (zs : List Int) (pool : List Nat) (os : List Ob) (o : Ob), Wz c zs → HeapAt c zs pool os → o ∈ os → Looks c 90 [.int .i64 ((o.h : Int) + 1)] zs (fun w e w' => e = .returned (.int .i64 (nth zs (adr c o.h 3))) ∧ Below w.heap.size w w')
  see_no : ∀ (c : Cf) (zs : List Int) (pool : List Nat) (os : List Ob) (r : Int), Wz c zs → HeapAt c zs pool os → In64 r → obAt os r = none → Looks c 90 [.int .i64 r] zs (fun w e w' => e = .returned (.int .i64 0) ∧ Below w.heap.size w w')

end Go.Proofs.YtljdbaddockfcaaGreat.Pk

/-
  A ring's head and an object's head are one: the ring among a heap's objects, each without the other. No program in sight.
-/
namespace Go.Proofs.YtljdbaddockfcaaGreat.Pk
open Go.RowKit
set_option linter.unusedVariables false
set_option linter.unusedSimpArgs false

/-- Only registers past the pool's, and the words 0 and 3 to 7 of heads, may be other ones; each tag is right, and of the same kind. -/
structure HeadsOnly (c : Cf) (zs zs' : List Int) (os : List Ob) : Prop where
  len : zs'.length = zs.length
  out : ∀ i, (i < 3 ∨ 24 ≤ i) → (∀ o, o ∈ os → ∀ v, v < 8 → v ≠ 1 → v ≠ 2 → i ≠ adr c o.h v) → nth zs' i = nth zs i
  tag : ∀ o, o ∈ os → TagOk (nth zs' (adr c o.h 0)) ∧ uK (nth zs' (adr c o.h 0)) = uK (nth zs (adr c o.h 0))
theorem adr_24 (c : Cf) (b v : Nat) : 24 ≤ adr c b v := by unfold adr; omega

section
variable {c : Cf} {zs zs' : List Int} {o : Ob} {pool l : List Nat} {os : List Ob}
theorem HeapAt.heads (h : HeapAt c zs pool os) (hm : c.May) (k : HeadsOnly c zs zs' os) : HeapAt c zs' pool os ∧ ∀ o' i, o' ∈ os → i < o'.f → fldV c zs' o' i = fldV c zs o' i := by
  have hw := hm.w
  have hb : ∀ b u, u < c.W → (∀ o, o ∈ os → b ≠ o.h) → nth zs' (adr c b u) = nth zs (adr c b u) := fun b u hu hn => k.out _ (.inr (adr_24 c b u)) (fun o ho v hv _ _ e => hn o ho (adr_inj hu (by omega) e).1)
  have hp : ∀ b, b ∈ pool → ∀ o, o ∈ os → b ≠ o.h := fun b hb o ho e => h.notPool ho o.head_mem (e ▸ hb)
  have hl : ∀ o b, o ∈ os → b + 1 ∈ o.lv → ∀ o', o' ∈ os → b ≠ o'.h := fun o b ho hb o' ho' e => by
    have hb' : b ∈ o.blocks := by unfold Ob.blocks; exact List.mem_cons_of_mem _ (Ob.mem_leaves.2 hb)
    obtain rfl := h.own ho ho' hb' (by rw [e]; exact o'.head_mem)
    exact (List.nodup_cons.1 (h.ownB ho)).1 (by rw [← e]; exact Ob.mem_leaves.2 hb)
  have hh : ∀ o, o ∈ os → ∀ u, u < c.W → (u = 1 ∨ u = 2 ∨ 8 ≤ u) → nth zs' (adr c o.h u) = nth zs (adr c o.h u) := fun o ho u hu h3 => k.out _ (.inr (adr_24 c _ u)) (fun o' ho' v hv h1 h2 e => by
    have := (adr_inj hu (by omega) e).2
    omega)
  have hreg : ∀ r, r < 3 → nth zs' r = nth zs r := fun r hr => k.out r (.inl hr) (fun o ho v _ _ _ e => by have := adr_24 c o.h v; omega)
  refine ⟨⟨⟨h.pl.ch.congr (hreg _ (by omega)) (hreg _ (by omega)) (hreg _ (by omega)) (fun b hb' => by rw [lnk_adr]; exact hb b 5 (by omega) (hp b hb')), fun b hb' => by rw [hb b 0 (by omega) (hp b hb')]; exact h.pl.fr b hb'⟩, fun o ho => ?_, h.perm⟩, fun o i ho hi => ?_⟩
  · exact (h.obs o ho).congr (k.tag o ho) (hh o ho 1 (by omega) (by omega)) (hh o ho 2 (by omega) (by omega)) (fun j hj => hh o ho (8 + j) (by have := (h.obs o ho).lvW hm; omega) (by omega)) (fun b hb' => hb b 0 (by omega) (hl o b ho hb'))
  · unfold fldV
    cases hf : fieldA c o i with
    | none => rfl
    | some a =>
      have ha : 24 ≤ a := by
        unfold fieldA at hf
        cases hq : fieldP c o i with
        | none => rw [hq] at hf; cases hf
        | some q => rw [hq] at hf; simp at hf; rw [← hf]; exact adr_24 c _ _
      exact k.out a (.inr ha) (fun o' ho' v hv _ _ => h.field_ne hm ho' ho hi hf hv)

/-- Each block: clean, a head, or a leaf. -/
theorem HeapAt.kinds (h : HeapAt c zs pool os) {b : Nat} (hb : b < c.N) : nth zs (adr c b 0) = 0 ∨ (∃ o, o ∈ os ∧ o.h = b) ∨ ∃ x : Nat, x < c.N ∧ nth zs (adr c b 0) = 3 + 256 * (x : Int) := by
  rcases h.all hb with hp | ⟨o, ho, hb'⟩
  · exact .inl (h.pl.fr b hp)
  · unfold Ob.blocks at hb'
    rcases List.mem_cons.1 hb' with e | hl
    · exact .inr (.inl ⟨o, ho, e.symm⟩)
    · exact .inr (.inr ⟨o.h, (h.obs o ho).hlt, (h.obs o ho).leaf b (Ob.mem_leaves.1 hl)⟩)
theorem leaf_tag {x : Nat} (hx : x < 1048576) : TagOk (3 + 256 * (x : Int)) ∧ uG (3 + 256 * (x : Int)) = 0 ∧ uK (3 + 256 * (x : Int)) = 3 := by
  unfold TagOk RightT uK uC uN uS uD uG uO
  omega
theorem zero_tag : TagOk 0 ∧ uG 0 = 0 ∧ uK 0 = 0 := by unfold TagOk RightT uK uC uN uS uD uG uO; omega
/-- Who stands in the ring is an object's head. -/
theorem HeapAt.ringHead (h : HeapAt c zs pool os) (hm : c.May) (hr : RingAt c zs l) {b : Nat} (hb : b ∈ l) : ∃ o, o ∈ os ∧ o.h = b := by
  have hn := hm.n
  rcases h.kinds (hr.lt b hb) with h0 | h1 | ⟨x, hx, h2⟩
  · have := hr.hd b hb
    rw [h0] at this
    unfold HeadT at this
    rw [zero_tag.2.2] at this
    omega
  · exact h1
  · have := hr.hd b hb
    rw [h2] at this
    unfold HeadT at this
    rw [(leaf_tag (x := x) (by omega)).2.2] at this
    omega
/-- No word that the ring needs is another one. -/
theorem RingAt.congr (h : RingAt c zs l) (hr : ∀ r, r = 7 ∨ r = 8 ∨ r = 9 → nth zs' r = nth zs r) (ht : ∀ b, b < c.N → nth zs' (adr c b 0) = nth zs (adr c b 0)) (hs : ∀ b, b ∈ l → nth zs' (adr c b 6) = nth zs (adr c b 6) ∧ nth zs' (adr c b 7) = nth zs (adr c b 7)) : RingAt c zs' l :=
  ⟨by rw [hr 7 (by omega)]; exact h.r7, by rw [hr 8 (by omega)]; exact h.r8, by rw [hr 9 (by omega)]; exact h.r9, h.lt, h.nd, h.seg.congr hs, fun b hb => by rw [ht b hb]; exact h.tok b hb, fun b hb => by rw [ht b (h.lt b hb)]; exact h.hd b hb, fun b hb => by rw [ht b hb]; exact h.mrk b hb⟩
/-- A word of a head that the ring doesn't need is set. -/
theorem RingAt.setOwn (h : RingAt c zs l) (hm : c.May) {b v : Nat} (h0 : v ≠ 0) (h6 : v ≠ 6) (h7 : v ≠ 7) (hv : v < 8) (x : Int) : RingAt c (zs.set (adr c b v) x) l := by
  have hw := hm.w
  have hne : ∀ a u, u < 8 → u ≠ v → nth (zs.set (adr c b v) x) (adr c a u) = nth zs (adr c a u) := fun a u hu hn => nth_set_ne (fun e => hn (adr_inj (by omega) (by omega) e).2.symm) x
  exact h.congr (fun r hr => nth_set_ne (fun e => by have := adr_24 c b v; omega) x) (fun a _ => hne a 0 (by omega) (Ne.symm h0)) (fun a _ => ⟨hne a 6 (by omega) (Ne.symm h6), hne a 7 (by omega) (Ne.symm h7)⟩)

theorem HeapAt.ringAdd (h : HeapAt c zs pool os) (hr : RingAt c zs l) (hm : c.May) (hz : zs.length = c.size) (ho : o ∈ os) (hn : o.h ∉ l) :
    RingAt c (ringAddZ c o.h zs) (l ++ [o.h]) ∧ HeadsOnly c zs (ringAddZ c o.h zs) os ∧ ∀ o', o' ∈ os → nth (ringAddZ c o.h zs) (adr c o'.h 3) = nth zs (adr c o'.h 3) := by
  have hw := hm.w
  have hA := h.obs o ho
  have hR := hr.add hm hz hA.hlt hn hA.head
  have hg := hr.mk0 hA.hlt hn
  refine ⟨hR, ⟨ringAddZ_length c o.h zs, fun i hi hne => ?_, fun o' ho' => ?_⟩, fun o' ho' => ringAdd_out hr hz ⟨by have := adr_24 c o'.h 3; omega, by have := adr_24 c o'.h 3; omega, by have := adr_24 c o'.h 3; omega, fun e => by have := (adr_inj (by omega) (by omega) e).2; omega, fun x _ => ⟨fun e => by have := (adr_inj (by omega) (by omega) e).2; omega, fun e => by have := (adr_inj (by omega) (by omega) e).2; omega⟩⟩⟩
  · refine ringAdd_out hr hz ⟨by omega, by omega, by omega, hne o ho 0 (by omega) (by omega) (by omega), fun x hx => ?_⟩
    obtain ⟨o', ho', rfl⟩ : ∃ o', o' ∈ os ∧ o'.h = x := by
      rcases hx with rfl | hx
      · exact ⟨o, ho, rfl⟩
      · exact h.ringHead hm hr hx
    exact ⟨hne o' ho' 6 (by omega) (by omega) (by omega), hne o' ho' 7 (by omega) (by omega) (by omega)⟩
  · refine ⟨hR.tok _ (h.obs o' ho').hlt, ?_⟩
    rw [ringAdd_tag hm hz (h.obs o' ho').hlt]
    split
    · rename_i e
      rw [e]
      exact (hA.tok.ring1 hA.head hg).2.2.2.1
    · rfl
theorem HeapAt.ringCut {l1 l2 : List Nat} (h : HeapAt c zs pool os) (hr : RingAt c zs (l1 ++ o.h :: l2)) (hm : c.May) (hz : zs.length = c.size) (ho : o ∈ os) :
    RingAt c (ringCutZ c o.h zs) (l1 ++ l2) ∧ HeadsOnly c zs (ringCutZ c o.h zs) os ∧ ∀ o', o' ∈ os → nth (ringCutZ c o.h zs) (adr c o'.h 3) = nth zs (adr c o'.h 3) := by
  have hw := hm.w
  have hA := h.obs o ho
  have hR := hr.cut hm hz
  have hg : uG (nth zs (adr c o.h 0)) = 1 := (hr.mrk _ hA.hlt).2 (by simp)
  refine ⟨hR, ⟨ringCutZ_length c o.h zs, fun i hi hne => ?_, fun o' ho' => ?_⟩, fun o' ho' => ringCut_out hr hz ⟨by have := adr_24 c o'.h 3; omega, by have := adr_24 c o'.h 3; omega, by have := adr_24 c o'.h 3; omega, fun e => by have := (adr_inj (by omega) (by omega) e).2; omega, fun x _ => ⟨fun e => by have := (adr_inj (by omega) (by omega) e).2; omega, fun e => by have := (adr_inj (by omega) (by omega) e).2; omega⟩⟩⟩
  · refine ringCut_out hr hz ⟨by omega, by omega, by omega, hne o ho 0 (by omega) (by omega) (by omega), fun x hx => ?_⟩
    obtain ⟨o', ho', rfl⟩ : ∃ o', o' ∈ os ∧ o'.h = x := by
      rcases hx with rfl | hx
      · exact ⟨o, ho, rfl⟩
      · refine h.ringHead hm hr (?_ : x ∈ l1 ++ o.h :: l2)
        rcases List.mem_append.1 hx with h1 | h1
        · simp [h1]
        · simp [h1]
    exact ⟨hne o' ho' 6 (by omega) (by omega) (by omega), hne o' ho' 7 (by omega) (by omega) (by omega)⟩
  · refine ⟨hR.tok _ (h.obs o' ho').hlt, ?_⟩
    rw [ringCut_tag hm hz (h.obs o' ho').hlt]
    split
    · rename_i e
      rw [e]
      exact (hA.tok.ring0 hA.head hg).2.2.2.1
    · rfl

/-- A heap in which nobody was counted, and no ring is. -/
structure Fresh (c : Cf) (zs : List Int) (os : List Ob) : Prop where
  reg : ∀ r, 3 ≤ r → r < 24 → nth zs r = 0
  tag : ∀ o, o ∈ os → nth zs (adr c o.h 0) = 1 ∨ nth zs (adr c o.h 0) = 2
  cnt : ∀ o, o ∈ os → nth zs (adr c o.h 3) = 0
theorem Opened.fresh (h : Opened c zs) : Fresh c zs [] := ⟨fun r h3 h24 => h.2 r (by omega) (fun b _ e => by have := adr_24 c b 5; omega), fun o ho => absurd ho (by simp), fun o ho => absurd ho (by simp)⟩
theorem MadeOb.fresh (h : MadeOb c zs zs' pool os o) (hf : Fresh c zs os) (hm : c.May) : Fresh c zs' (os ++ [o]) := by
  have hw := hm.w
  have hO : o ∈ os ++ [o] := by simp
  have hk : ∀ o', o' ∈ os → ∀ v, v < 8 → nth zs' (adr c o'.h v) = nth zs (adr c o'.h v) := fun o' ho' v hv => h.out _ (by have := adr_24 c o'.h v; omega) (fun b hb => inBlk_ne (fun e => by
    have := h.heap.nodupB
    rw [List.flatMap_append, List.nodup_append] at this
    exact this.2.2 o'.h (List.mem_flatMap.2 ⟨o', ho', o'.head_mem⟩) b (by simpa using hb) e) (by omega))
  refine ⟨fun r h3 h24 => by rw [h.out r (by omega) (fun b _ => inBlk_reg (by omega))]; exact hf.reg r h3 h24, fun o' ho' => ?_, fun o' ho' => ?_⟩
  · rcases List.mem_append.1 ho' with h1 | h1
    · rw [hk o' h1 0 (by omega)]; exact hf.tag o' h1
    · obtain rfl : o' = o := by simpa using h1
      rw [h.tag]
      split <;> simp
  · rcases List.mem_append.1 ho' with h1 | h1
    · rw [hk o' h1 3 (by omega)]; exact hf.cnt o' h1
    · obtain rfl : o' = o := by simpa using h1
      exact h.own 3 (by omega) (by omega)
theorem Fresh.setField (hf : Fresh c zs os) (h : HeapAt c zs pool os) (hm : c.May) (ho : o ∈ os) {i a : Nat} (hi : i < o.f) (ha : fieldA c o i = some a) (x : Int) : Fresh c (zs.set a x) os := by
  have ha24 : 24 ≤ a := by
    unfold fieldA at ha
    cases hq : fieldP c o i with
    | none => rw [hq] at ha; cases ha
    | some q => rw [hq] at ha; simp at ha; rw [← ha]; exact adr_24 c _ _
  have hk : ∀ o', o' ∈ os → ∀ v, v < 8 → nth (zs.set a x) (adr c o'.h v) = nth zs (adr c o'.h v) := fun o' ho' v hv => nth_set_ne (h.field_ne hm ho' ho hi ha hv) x
  exact ⟨fun r h3 h24 => by rw [nth_set_ne (by omega)]; exact hf.reg r h3 h24, fun o' ho' => by rw [hk o' ho' 0 (by omega)]; exact hf.tag o' ho', fun o' ho' => by rw [hk o' ho' 3 (by omega)]; exact hf.cnt o' ho'⟩
theorem Fresh.ring (hf : Fresh c zs os) (h : HeapAt c zs pool os) (hm : c.May) : RingAt c zs [] := by
  have hn := hm.n
  have hk : ∀ b, b < c.N → TagOk (nth zs (adr c b 0)) ∧ uG (nth zs (adr c b 0)) = 0 := fun b hb => by
    rcases h.kinds hb with h0 | ⟨o, ho, rfl⟩ | ⟨x, hx, h2⟩
    · rw [h0]; exact ⟨zero_tag.1, zero_tag.2.1⟩
    · refine ⟨(h.obs o ho).tok, ?_⟩
      rcases hf.tag o ho with e | e <;> rw [e] <;> decide
    · rw [h2]; exact ⟨(leaf_tag (by omega)).1, (leaf_tag (by omega)).2.1⟩
  refine ⟨by rw [hf.reg 7 (by omega) (by omega)]; rfl, by rw [hf.reg 8 (by omega) (by omega)]; rfl, by rw [hf.reg 9 (by omega) (by omega)]; rfl, by simp, by simp, trivial, fun b hb => (hk b hb).1, by simp, fun b hb => ?_⟩
  rw [(hk b hb).2]
  simp
end

end Go.Proofs.YtljdbaddockfcaaGreat.Pk

/-
  Which world a ground's words stand for: its objects, their counts, marks and shadows, the ring, the grave, an epoch's numbers. What is left when one of these is set. No program in sight.
-/
namespace Go.Proofs.YtljdbaddockfcaaGreat.Pk
open Go.RowKit
set_option linter.unusedVariables false
set_option linter.unusedSimpArgs false

def Th.ob (t : Th) : Ob := ⟨t.h, t.pt.length, t.dt.length, t.lv.map (fun x => (x + 1).toNat)⟩
def Th.fld (t : Th) (i : Nat) : Int := if i < t.pt.length then nth t.pt i else nth t.dt (i - t.pt.length)
def liveL (l : List Th) : List Th := l.filter (fun t => !t.ended)
def Wd.live (D : Wd) : List Th := liveL D.ts
def Wd.obs (D : Wd) : List Ob := D.live.map Th.ob
def Wd.reg (D : Wd) : Nat → Int
  | 10 => D.parity
  | 11 => D.phase
  | 12 => D.cursor
  | 13 => D.field
  | 14 => D.scan
  | 15 => D.scanF
  | 16 => D.suspect
  | 17 => D.units
  | 18 => D.epochs % 4294967296
  | _ => 0
/-- What is known of an object, in its head's words. -/
structure RepO (c : Cf) (zs : List Int) (h : Nat) (m : Mrk) : Prop where
  cC : uC (nth zs (adr c h 0)) = m.color
  cN : uN (nth zs (adr c h 0)) = m.count
  cS : uS (nth zs (adr c h 0)) = m.shade
  cD : uD (nth zs (adr c h 0)) = if m.dead then 1 else 0
  w3 : nth zs (adr c h 3) = m.refs
  w4 : nth zs (adr c h 4) = m.shadow
structure RepW (c : Cf) (zs : List Int) (D : Wd) : Prop where
  n : D.n = c.N
  w : D.w = c.W
  heap : HeapAt c zs D.clean D.obs
  own : ∀ t, t ∈ D.live → RepO c zs t.h t.mr
  fld : ∀ t, t ∈ D.live → ∀ i a, i < t.ob.f → fieldA c t.ob i = some a → nth zs a = t.fld i
  ring : RingAt c zs D.ring
  grave : ChainAt c zs 1 (D.grave.map (· - 1))
  r6 : nth zs 6 = D.pending
  reg : ∀ k, 10 ≤ k → k ≤ 18 → nth zs k = D.reg k
  par : D.parity = 0 ∨ D.parity = 1
  gv : ∀ r, r ∈ D.grave → ∃ t, t ∈ D.live ∧ t.h + 1 = r
  bur : ∀ t, t ∈ D.live → t.h + 1 ∈ D.grave → t.mr.dead = true ∧ nth zs (adr c t.h 6) = t.mr.left ∧ nth zs (adr c t.h 7) = t.mr.leaves ∧ t.h ∉ D.ring

section
variable {c : Cf} {zs zs' : List Int} {D D' : Wd} {t s : Th} {r : Int} {l : List Th}
theorem mem_live {l : List Th} : t ∈ liveL l ↔ t ∈ l ∧ t.ended = false := by unfold liveL; rw [List.mem_filter]; simp
theorem find_live (h : D.find r = some t) : t ∈ D.live ∧ (t.h : Int) + 1 = r := by
  obtain ⟨h1, h2, h3⟩ := find_at h
  exact ⟨mem_live.2 ⟨h1, h2⟩, h3⟩
theorem live_cons (u : Th) (l : List Th) : liveL (u :: l) = if u.ended then liveL l else u :: liveL l := by
  unfold liveL
  cases h : u.ended <;> simp [h]
/-- Of a list in which no two heads are one: who is there when one was changed. -/
theorem updL_mem {g : Th → Th} : ∀ {l : List Th}, ((liveL l).map Th.h).Nodup → findL r l = some t → s ∈ liveL (updL r g l) → (s = g t) ∨ (s ∈ liveL l ∧ s.h ≠ t.h)
  | [], _, h, _ => by simp [findL] at h
  | u :: l, hn, h, hs => by
    unfold findL at h
    unfold updL at hs
    cases hu : u.at r with
    | true =>
      rw [hu] at h hs
      simp at h hs
      subst h
      have hue : u.ended = false := by unfold Th.at at hu; simp at hu; exact hu.1
      rw [live_cons, hue] at hn ⊢
      simp at hn ⊢
      obtain ⟨m1, m2⟩ := mem_live.1 hs
      rcases List.mem_cons.1 m1 with rfl | m1
      · exact .inl rfl
      · exact .inr ⟨.inr (mem_live.2 ⟨m1, m2⟩), fun e => hn.1 s (mem_live.2 ⟨m1, m2⟩) e⟩
    | false =>
      rw [hu] at h hs
      simp at h hs
      have ht := find_at h
      have htl : t ∈ liveL l := mem_live.2 ⟨ht.1, ht.2.1⟩
      rw [live_cons] at hn hs ⊢
      cases hue : u.ended with
      | true =>
        rw [hue] at hn hs
        simp at hn hs ⊢
        exact updL_mem hn h hs
      | false =>
        rw [hue] at hn hs
        simp at hn hs ⊢
        rcases hs with rfl | hs
        · exact .inr ⟨.inl rfl, fun e => hn.1 t htl e.symm⟩
        · rcases updL_mem hn.2 h hs with h1 | h1
          · exact .inl h1
          · exact .inr ⟨.inr h1.1, h1.2⟩
theorem updL_obs {g : Th → Th} (hg : ∀ t, (g t).ended = t.ended ∧ (g t).ob = t.ob) : ∀ l : List Th, (liveL (updL r g l)).map Th.ob = (liveL l).map Th.ob
  | [] => rfl
  | u :: l => by
    unfold updL
    split
    · rw [live_cons, live_cons, (hg u).1]
      split
      · rfl
      · simp [(hg u).2]
    · rw [live_cons, live_cons]
      split
      · exact updL_obs hg l
      · simp [updL_obs hg l]
theorem updL_find {g : Th → Th} (hg : ∀ t, (g t).ended = t.ended ∧ (g t).h = t.h) (q : Int) : ∀ l : List Th, findL q (updL r g l) = (findL q l).map (fun t => if t.at r then g t else t)
  | [] => rfl
  | u :: l => by
    have hat : (g u).at q = u.at q := by unfold Th.at; rw [(hg u).1, (hg u).2]
    have hqr : ∀ v : Th, v.at q = true → (v.at r = true ↔ q = r) := fun v hv => by
      unfold Th.at at *
      simp at *
      rw [hv.1, hv.2]
      simp
    unfold updL
    cases hu : u.at r with
    | true =>
      simp [findL, hat]
      cases hq : u.at q with
      | true => simp [hu]
      | false =>
        simp
        cases h : findL q l with
        | none => rfl
        | some v =>
          have hv : v.at q = true := by
            obtain ⟨i, hi, _⟩ := find_some h
            obtain ⟨w', h1, h2, _⟩ := ixL_some hi
            obtain ⟨j, hj, hv⟩ := find_some h
            rw [hi] at hj; cases hj
            rw [hv] at h1; cases h1
            exact h2
          have : ¬ v.at r = true := fun e => by
            have e1 := (hqr v hv).1 e
            rw [e1] at hq
            rw [hq] at hu
            cases hu
          simp [this]
    | false =>
      simp [findL]
      cases hq : u.at q with
      | true => simp [hu]
      | false => simp [updL_find hg q l]
theorem obs_mark (f : Mrk → Mrk) : (D.mark r f).obs = D.obs := updL_obs (g := fun t => { t with mr := f t.mr }) (fun _ => ⟨rfl, rfl⟩) D.ts
theorem find_mark (f : Mrk → Mrk) (q : Int) : (D.mark r f).find q = (D.find q).map (fun t => if t.at r then { t with mr := f t.mr } else t) := updL_find (g := fun t => { t with mr := f t.mr }) (fun _ => ⟨rfl, rfl⟩) q D.ts
theorem RepW.nodup (R : RepW c zs D) : (D.live.map Th.h).Nodup := by
  have := heads_nodup' R.heap.nodupB
  unfold Wd.obs at this
  rw [List.map_map] at this
  exact this
where
  heads_nodup' : ∀ {os : List Ob}, (os.flatMap Ob.blocks).Nodup → (os.map Ob.h).Nodup
  | [], _ => by simp
  | x :: t, hn => by
    rw [List.flatMap_cons, List.nodup_append] at hn
    obtain ⟨n1, n2, n3⟩ := hn
    rw [List.map_cons, List.nodup_cons]
    refine ⟨fun hm => ?_, heads_nodup' n2⟩
    obtain ⟨o, ho, e⟩ := List.mem_map.1 hm
    exact n3 x.h x.head_mem x.h (List.mem_flatMap.2 ⟨o, ho, e ▸ o.head_mem⟩) rfl
theorem live_mark (R : RepW c zs D) {f : Mrk → Mrk} (hf : D.find r = some t) (hs : s ∈ (D.mark r f).live) : s = { t with mr := f t.mr } ∨ (s ∈ D.live ∧ s.h ≠ t.h) := updL_mem R.nodup hf hs
theorem RepW.obMem (R : RepW c zs D) (ht : t ∈ D.live) : t.ob ∈ D.obs := List.mem_map.2 ⟨t, ht, rfl⟩
theorem RepW.hlt (R : RepW c zs D) (ht : t ∈ D.live) : t.h < c.N := (R.heap.obs t.ob (R.obMem ht)).hlt
/-- Of an object that there is, the reference finds it. -/
theorem RepW.findIt (R : RepW c zs D) (ht : t ∈ D.live) : D.find ((t.h : Int) + 1) = some t := by
  have hn := R.nodup
  unfold Wd.live at hn ht
  unfold Wd.find
  revert ht hn
  induction D.ts with
  | nil => intro ht hn; simp [liveL] at ht
  | cons u l ih =>
    intro ht hn
    unfold findL
    rw [live_cons] at hn ht
    cases hue : u.ended with
    | true =>
      rw [hue] at hn ht
      have : u.at ((t.h : Int) + 1) = false := by unfold Th.at; simp [hue]
      simp [this]
      exact ih (by simpa using ht) (by simpa using hn)
    | false =>
      rw [hue] at hn ht
      simp at hn ht
      rcases ht with rfl | ht
      · have : t.at ((t.h : Int) + 1) = true := by unfold Th.at; simp [hue]
        simp [this]
      · have : u.at ((t.h : Int) + 1) = false := by
          unfold Th.at
          simp [hue]
          intro e
          exact hn.1 t ht (by omega)
        simp [this]
        exact ih ht hn.2
theorem obAt_find (R : RepW c zs D) (r : Int) : obAt D.obs r = (D.find r).map Th.ob := by
  cases h : D.find r with
  | some t =>
    obtain ⟨h1, rfl⟩ := find_live h
    exact R.heap.obAt (R.obMem h1)
  | none =>
    cases ho : obAt D.obs r with
    | none => rfl
    | some o =>
      obtain ⟨h1, h2⟩ := obAt_some ho
      unfold Wd.obs at h1
      obtain ⟨t, ht, rfl⟩ := List.mem_map.1 h1
      have := R.findIt ht
      rw [show ((t.h : Int) + 1) = r from h2] at this
      rw [this] at h
      cases h
/-- The frame of all that only heads and registers are changed by. -/
theorem RepW.frame (R : RepW c zs D) (hm : c.May) (K : HeadsOnly c zs zs' D.obs) (hn : D'.n = D.n) (hw : D'.w = D.w) (hcl : D'.clean = D.clean) (hob : D'.obs = D.obs)
    (hf : ∀ t', t' ∈ D'.live → ∃ t, t ∈ D.live ∧ t'.h = t.h ∧ t'.lv = t.lv ∧ t'.pt = t.pt ∧ t'.dt = t.dt) (ho : ∀ t', t' ∈ D'.live → RepO c zs' t'.h t'.mr) (hr : RingAt c zs' D'.ring)
    (hg : ChainAt c zs' 1 (D'.grave.map (· - 1))) (h6 : nth zs' 6 = D'.pending) (hreg : ∀ k, 10 ≤ k → k ≤ 18 → nth zs' k = D'.reg k) (hp : D'.parity = 0 ∨ D'.parity = 1)
    (hgv : ∀ r, r ∈ D'.grave → ∃ t, t ∈ D'.live ∧ t.h + 1 = r) (hbu : ∀ t, t ∈ D'.live → t.h + 1 ∈ D'.grave → t.mr.dead = true ∧ nth zs' (adr c t.h 6) = t.mr.left ∧ nth zs' (adr c t.h 7) = t.mr.leaves ∧ t.h ∉ D'.ring) : RepW c zs' D' := by
  obtain ⟨h1, h2⟩ := R.heap.heads hm K
  refine ⟨by rw [hn]; exact R.n, by rw [hw]; exact R.w, by rw [hcl, hob]; exact h1, ho, fun t' ht' i a hi ha => ?_, hr, hg, h6, hreg, hp, hgv, hbu⟩
  obtain ⟨t, ht, e1, e2, e3, e4⟩ := hf t' ht'
  have eo : t'.ob = t.ob := by unfold Th.ob; rw [e1, e2, e3, e4]
  have ef : t'.fld i = t.fld i := by unfold Th.fld; rw [e3, e4]
  rw [eo] at hi ha
  rw [ef, ← R.fld t ht i a hi ha]
  have := h2 t.ob i (R.obMem ht) hi
  unfold fldV at this
  rw [ha] at this
  exact this
theorem ChainAt.same {k : Nat} {l : List Nat} (h : ChainAt c zs k l) (hr : ∀ r, 3 * k ≤ r → r < 3 * k + 3 → nth zs' r = nth zs r) (hl : ∀ b, b < c.N → nth zs' (adr c b 5) = nth zs (adr c b 5)) : ChainAt c zs' k l :=
  h.congr (hr _ (by omega) (by omega)) (hr _ (by omega) (by omega)) (hr _ (by omega) (by omega)) (fun b hb => by rw [lnk_adr]; exact hl b (h.lt b hb))
/-! ### A register is set -/
theorem RepW.setReg (R : RepW c zs D) (hm : c.May) (hz : zs.length = c.size) {k : Nat} {x : Int} (hk0 : 10 ≤ k) (hk1 : k ≤ 18) (hn : D'.n = D.n) (hw : D'.w = D.w) (hcl : D'.clean = D.clean) (hts : D'.ts = D.ts) (hri : D'.ring = D.ring) (hgr : D'.grave = D.grave) (hpe : D'.pending = D.pending)
    (hx : D'.reg k = x) (ho : ∀ j, 10 ≤ j → j ≤ 18 → j ≠ k → D'.reg j = D.reg j) (hp : D'.parity = 0 ∨ D'.parity = 1) : RepW c (zs.set k x) D' := by
  have hs := hm.size
  have ha : ∀ b u, nth (zs.set k x) (adr c b u) = nth zs (adr c b u) := fun b u => nth_set_ne (fun e => by have := adr_24 c b u; omega) x
  have hr : ∀ j, j ≠ k → nth (zs.set k x) j = nth zs j := fun j hj => nth_set_ne (fun e => hj e.symm) x
  have hlive : D'.live = D.live := by unfold Wd.live; rw [hts]
  refine R.frame hm ⟨by simp, fun i hi hne => hr i (by omega), fun o ho' => by rw [ha]; exact ⟨(R.heap.obs o ho').tok, rfl⟩⟩ hn hw hcl (by unfold Wd.obs; rw [hlive]) (fun t' ht' => ⟨t', hlive ▸ ht', rfl, rfl, rfl, rfl⟩) (fun t' ht' => ?_) ?_ ?_ (by rw [hr 6 (by omega), hpe]; exact R.r6) (fun j h1 h2 => ?_) hp (by rw [hgr, hlive]; exact R.gv) (fun t' ht' hg => by rw [ha, ha, hri]; exact R.bur t' (hlive ▸ ht') (hgr ▸ hg))
  · obtain ⟨a1, a2, a3, a4, a5, a6⟩ := R.own t' (hlive ▸ ht')
    constructor <;> rw [ha] <;> assumption
  · rw [hri]
    exact R.ring.congr (fun j hj => hr j (by omega)) (fun b _ => ha b 0) (fun b _ => ⟨ha b 6, ha b 7⟩)
  · rw [hgr]
    exact R.grave.same (fun j h1 h2 => hr j (by omega)) (fun b _ => ha b 5)
  · by_cases e : j = k
    · subst e
      rw [nth_set_eq (by rw [hz]; omega), hx]
    · rw [hr j e, ho j h1 h2 e]
      exact R.reg j h1 h2
/-! ### Words of a head are set -/
theorem RingAt.setTag {l : List Nat} (h : RingAt c zs l) (hm : c.May) (hz : zs.length = c.size) {b : Nat} (hb : b < c.N) {x : Int} (hx : TagOk x) (hk : uK x = uK (nth zs (adr c b 0))) (hg : uG x = uG (nth zs (adr c b 0))) : RingAt c (zs.set (adr c b 0) x) l := by
  have hw := hm.w
  have hne : ∀ a u, u < 8 → (a ≠ b ∨ u ≠ 0) → nth (zs.set (adr c b 0) x) (adr c a u) = nth zs (adr c a u) := fun a u hu hn => nth_set_ne (fun e => by
    have := adr_inj (c := c) (by omega) (by omega) e
    rcases hn with hn | hn
    · exact hn this.1.symm
    · exact hn this.2.symm) x
  have hself : nth (zs.set (adr c b 0) x) (adr c b 0) = x := nth_set_eq (by rw [hz]; exact adr_lt hb (by omega)) x
  have hreg : ∀ r, r < 24 → nth (zs.set (adr c b 0) x) r = nth zs r := fun r hr => nth_set_ne (fun e => by have := adr_24 c b 0; omega) x
  refine ⟨by rw [hreg 7 (by omega)]; exact h.r7, by rw [hreg 8 (by omega)]; exact h.r8, by rw [hreg 9 (by omega)]; exact h.r9, h.lt, h.nd, h.seg.congr (fun a _ => ⟨hne a 6 (by omega) (.inr (by omega)), hne a 7 (by omega) (.inr (by omega))⟩), fun a ha => ?_, fun a ha => ?_, fun a ha => ?_⟩
  · by_cases e : a = b
    · rw [e, hself]; exact hx
    · rw [hne a 0 (by omega) (.inl e)]; exact h.tok a ha
  · by_cases e : a = b
    · rw [e, hself]
      have := h.hd a ha
      rw [e] at this
      unfold HeadT at *
      rw [hk]; exact this
    · rw [hne a 0 (by omega) (.inl e)]; exact h.hd a ha
  · by_cases e : a = b
    · rw [e, hself, hg]; exact h.mrk b hb
    · rw [hne a 0 (by omega) (.inl e)]; exact h.mrk a ha
theorem live_mark' (R : RepW c zs D) {f : Mrk → Mrk} (hf : D.find r = some t) (hs : s ∈ (D.mark r f).live) : ∃ u, u ∈ D.live ∧ s.h = u.h ∧ s.lv = u.lv ∧ s.pt = u.pt ∧ s.dt = u.dt := by
  rcases live_mark R hf hs with rfl | ⟨h, _⟩
  · exact ⟨t, (find_live hf).1, rfl, rfl, rfl, rfl⟩
  · exact ⟨s, h, rfl, rfl, rfl, rfl⟩
theorem gv_mark (R : RepW c zs D) (f : Mrk → Mrk) (q : Nat) (hq : q ∈ D.grave) : ∃ u, u ∈ (D.mark r f).live ∧ u.h + 1 = q := by
  obtain ⟨u, hu, e⟩ := R.gv q hq
  have h1 : u.ob ∈ (D.mark r f).obs := by rw [obs_mark]; exact R.obMem hu
  obtain ⟨v, hv, e2⟩ := List.mem_map.1 h1
  have : v.h = u.h := congrArg Ob.h e2
  exact ⟨v, hv, by omega⟩
theorem RepW.setTag (R : RepW c zs D) (hm : c.May) (hz : zs.length = c.size) (hf : D.find r = some t) {x : Int} (hx : TagOk x) (hk : uK x = uK (nth zs (adr c t.h 0))) (hg : uG x = uG (nth zs (adr c t.h 0))) {f : Mrk → Mrk}
    (hm' : f t.mr = { t.mr with color := uC x, count := uN x, shade := uS x, dead := decide (uD x = 1) }) (hd : t.mr.dead = true → uD x = 1) : RepW c (zs.set (adr c t.h 0) x) (D.mark r f) := by
  have hw := hm.w
  obtain ⟨htl, hr⟩ := find_live hf
  have hlt := R.hlt htl
  have hne : ∀ a u, u < 8 → (a ≠ t.h ∨ u ≠ 0) → nth (zs.set (adr c t.h 0) x) (adr c a u) = nth zs (adr c a u) := fun a u hu hn => nth_set_ne (fun e => by
    have := adr_inj (c := c) (by omega) (by omega) e
    rcases hn with hn | hn
    · exact hn this.1.symm
    · exact hn this.2.symm) x
  have hself : nth (zs.set (adr c t.h 0) x) (adr c t.h 0) = x := nth_set_eq (by rw [hz]; exact adr_lt hlt (by omega)) x
  have hreg : ∀ r, r < 24 → nth (zs.set (adr c t.h 0) x) r = nth zs r := fun r hr => nth_set_ne (fun e => by have := adr_24 c t.h 0; omega) x
  have hD : uD x = 0 ∨ uD x = 1 := by unfold uD; omega
  refine R.frame hm ⟨by simp, fun i hi hne' => nth_set_ne (fun e => hne' t.ob (R.obMem htl) 0 (by omega) (by omega) (by omega) e.symm) x, fun o ho => ?_⟩ rfl rfl rfl (obs_mark f) (fun s hs => live_mark' R hf hs) (fun s hs => ?_) (R.ring.setTag hm hz hlt hx hk hg) (R.grave.same (fun j h1 h2 => hreg j (by omega)) (fun b _ => hne b 5 (by omega) (.inr (by omega)))) (by rw [hreg 6 (by omega)]; exact R.r6) (fun j h1 h2 => by rw [hreg j (by omega)]; exact R.reg j h1 h2) R.par (fun q hq => gv_mark R f q hq) (fun s hs hg' => ?_)
  · by_cases e : o.h = t.h
    · rw [e, hself]; exact ⟨hx, hk⟩
    · rw [hne o.h 0 (by omega) (.inl e)]; exact ⟨(R.heap.obs o ho).tok, rfl⟩
  · rcases live_mark R hf hs with rfl | ⟨h, hn⟩
    · have := R.own t htl
      refine ⟨?_, ?_, ?_, ?_, ?_, ?_⟩
      · rw [hself]; simp only [hm']
      · rw [hself]; simp only [hm']
      · rw [hself]; simp only [hm']
      · rw [hself]
        simp only [hm']
        rcases hD with e | e <;> rw [e] <;> decide
      · rw [hne t.h 3 (by omega) (.inr (by omega))]; simp only [hm']; exact this.w3
      · rw [hne t.h 4 (by omega) (.inr (by omega))]; simp only [hm']; exact this.w4
    · obtain ⟨a1, a2, a3, a4, a5, a6⟩ := R.own s h
      constructor <;> rw [hne s.h _ (by omega) (.inl hn)] <;> assumption
  · rcases live_mark R hf hs with rfl | ⟨h, hn⟩
    · obtain ⟨b1, b2, b3, b4⟩ := R.bur t htl hg'
      refine ⟨?_, ?_, ?_, b4⟩
      · simp only [hm', hd b1]; rfl
      · rw [hne t.h 6 (by omega) (.inr (by omega))]; simp only [hm']; exact b2
      · rw [hne t.h 7 (by omega) (.inr (by omega))]; simp only [hm']; exact b3
    · rw [hne s.h 6 (by omega) (.inl hn), hne s.h 7 (by omega) (.inl hn)]
      exact R.bur s h hg'
theorem RepW.setOwn (R : RepW c zs D) (hm : c.May) (hz : zs.length = c.size) (hf : D.find r = some t) {v : Nat} (hv : v = 3 ∨ v = 4) {x : Int} {f : Mrk → Mrk}
    (hm' : f t.mr = if v = 3 then { t.mr with refs := x } else { t.mr with shadow := x }) : RepW c (zs.set (adr c t.h v) x) (D.mark r f) := by
  have hw := hm.w
  obtain ⟨htl, hr⟩ := find_live hf
  have hlt := R.hlt htl
  have hne : ∀ a u, u < 8 → (a ≠ t.h ∨ u ≠ v) → nth (zs.set (adr c t.h v) x) (adr c a u) = nth zs (adr c a u) := fun a u hu hn => nth_set_ne (fun e => by
    have := adr_inj (c := c) (by omega) (by omega) e
    rcases hn with hn | hn
    · exact hn this.1.symm
    · exact hn this.2.symm) x
  have hself : nth (zs.set (adr c t.h v) x) (adr c t.h v) = x := nth_set_eq (by rw [hz]; exact adr_lt hlt (by omega)) x
  have hreg : ∀ r, r < 24 → nth (zs.set (adr c t.h v) x) r = nth zs r := fun r hr => nth_set_ne (fun e => by have := adr_24 c t.h v; omega) x
  refine R.frame hm ⟨by simp, fun i hi hne' => nth_set_ne (fun e => hne' t.ob (R.obMem htl) v (by omega) (by omega) (by omega) e.symm) x, fun o ho => by rw [hne o.h 0 (by omega) (.inr (by omega))]; exact ⟨(R.heap.obs o ho).tok, rfl⟩⟩ rfl rfl rfl (obs_mark f) (fun s hs => live_mark' R hf hs) (fun s hs => ?_) (R.ring.setOwn hm (by omega) (by omega) (by omega) (by omega) x) (R.grave.same (fun j h1 h2 => hreg j (by omega)) (fun b _ => hne b 5 (by omega) (.inr (by omega)))) (by rw [hreg 6 (by omega)]; exact R.r6) (fun j h1 h2 => by rw [hreg j (by omega)]; exact R.reg j h1 h2) R.par (fun q hq => gv_mark R f q hq) (fun s hs hg' => ?_)
  · rcases live_mark R hf hs with rfl | ⟨h, hn⟩
    · have := R.own t htl
      have h0 := hne t.h 0 (by omega) (.inr (by omega))
      rcases hv with rfl | rfl
      · rw [if_pos rfl] at hm'
        have h4 := hne t.h 4 (by omega) (.inr (by omega))
        refine ⟨?_, ?_, ?_, ?_, ?_, ?_⟩ <;> simp only [hm', h0, h4, hself]
        · exact this.cC
        · exact this.cN
        · exact this.cS
        · exact this.cD
        · exact this.w4
      · rw [if_neg (by decide)] at hm'
        have h3 := hne t.h 3 (by omega) (.inr (by omega))
        refine ⟨?_, ?_, ?_, ?_, ?_, ?_⟩ <;> simp only [hm', h0, h3, hself]
        · exact this.cC
        · exact this.cN
        · exact this.cS
        · exact this.cD
        · exact this.w3
    · obtain ⟨a1, a2, a3, a4, a5, a6⟩ := R.own s h
      constructor <;> rw [hne s.h _ (by omega) (.inl hn)] <;> assumption
  · have e6 : ∀ b, nth (zs.set (adr c t.h v) x) (adr c b 6) = nth zs (adr c b 6) := fun b => hne b 6 (by omega) (.inr (by omega))
    have e7 : ∀ b, nth (zs.set (adr c t.h v) x) (adr c b 7) = nth zs (adr c b 7) := fun b => hne b 7 (by omega) (.inr (by omega))
    rcases live_mark R hf hs with rfl | ⟨h, hn⟩
    · have hb := R.bur t htl hg'
      rw [e6, e7]
      have k1 : (f t.mr).dead = t.mr.dead := by rw [hm']; split <;> rfl
      have k2 : (f t.mr).left = t.mr.left := by rw [hm']; split <;> rfl
      have k3 : (f t.mr).leaves = t.mr.leaves := by rw [hm']; split <;> rfl
      exact ⟨by show (f t.mr).dead = true; rw [k1]; exact hb.1, by show _ = (f t.mr).left; rw [k2]; exact hb.2.1, by show _ = (f t.mr).leaves; rw [k3]; exact hb.2.2.1, hb.2.2.2⟩
    · rw [e6, e7]
      exact R.bur s h hg'
end
end Go.Proofs.YtljdbaddockfcaaGreat.Pk

/-
  What the functions of package pool must return for the laws (a bundle; PoolFn proves it of the landed code).
-/
namespace Go.Proofs.YtljdbaddockfcaaGreat.Pk
open Go.RowKit
set_option linter.unusedVariables false
set_option linter.unusedSimpArgs false

/-- Nobody can be given: there is no such block, or it is free. -/
def NoGive (c : Cf) (zs : List Int) (b : Int) : Prop := ¬ (0 ≤ b ∧ b < (c.N : Int)) ∨ ∃ k : Nat, b = (k : Int) ∧ k < c.N ∧ uK (nth zs (adr c k 0)) = 0

/-- What package pool's functions return. -/
structure PoolFns : Prop where
  open_yes : ∀ (c : Cf), c.May → ∃ zs', Acts c 71 [] (List.replicate c.size 0) (200 * c.N + 200) zs' (.bool true) ∧ Opened c zs'
  open_no : ∀ (c : Cf) (zs : List Int) (b : Nat) (l : List Nat), Wz c zs → ChainAt c zs 0 (b :: l) → Acts c 71 [] zs 24 zs (.bool false)
  take_yes : ∀ (c : Cf) (zs : List Int) (b : Nat) (l : List Nat), Wz c zs → ChainAt c zs 0 (b :: l) → Acts c 162 [] zs (c.W + 24) (poolTakeZ c b zs) (.tuple #[.int .i64 (b : Int), .bool true])
  take_no : ∀ (c : Cf) (zs : List Int), Wz c zs → ChainAt c zs 0 [] → Acts c 162 [] zs 24 zs (.tuple #[.int .i64 0, .bool false])
  give_yes : ∀ (c : Cf) (zs : List Int) (b : Nat) (l : List Nat), Wz c zs → ChainAt c zs 0 l → b < c.N → b ∉ l → uK (nth zs (adr c b 0)) ≠ 0 → Acts c 166 [.int .i64 (b : Int)] zs 24 (poolGiveZ c b zs) (.bool true)
  give_no : ∀ (c : Cf) (zs : List Int) (b : Int), Wz c zs → NoGive c zs b → Acts c 166 [.int .i64 b] zs 24 zs (.bool false)
  len : ∀ (c : Cf) (zs : List Int) (l : List Nat), Wz c zs → ChainAt c zs 0 l → Acts c 20 [] zs 24 zs (.int .i64 (l.length : Int))
  list : ∀ (c : Cf) (zs : List Int) (l : List Nat), Wz c zs → ChainAt c zs 0 l → Looks c 87 [] zs (NewNats l)

end Go.Proofs.YtljdbaddockfcaaGreat.Pk

/-
  Layer 11: the laws' opened ground; the chapter's example (of packages pool and obj that do what they must).
-/
namespace Go.Proofs.YtljdbaddockfcaaGreat.Pk
open Go.RowKit
set_option linter.unusedVariables false
set_option linter.unusedSimpArgs false

theorem Opened.heap {c : Cf} {zs : List Int} (h : Opened c zs) : HeapAt c zs (List.range c.N) [] := ⟨h.1, fun o ho => absurd ho (by simp), by simp⟩
/-- A state of a heap that a law made. -/
def HSt (w : World) (p : Pl) (c : Cf) (zs : List Int) (pool : List Nat) (os : List Ob) (wr : World) : Prop :=
  ∃ m, G wr p c ⟨zs, m⟩ ∧ HeapAt c zs pool os ∧ (∀ k, inG p k → w.heap.size ≤ k) ∧ Below w.heap.size w wr
theorem HSt.wz {w wr : World} {p : Pl} {c : Cf} {zs : List Int} {pool : List Nat} {os : List Ob} (h : HSt w p c zs pool os wr) : Wz c zs := by obtain ⟨m, hG, _⟩ := h; exact hG.wz
theorem HSt.heap {w wr : World} {p : Pl} {c : Cf} {zs : List Int} {pool : List Nat} {os : List Ob} (h : HSt w p c zs pool os wr) : HeapAt c zs pool os := by obtain ⟨m, hG, hh, _⟩ := h; exact hh
theorem HSt.below {w wr : World} {p : Pl} {c : Cf} {zs : List Int} {pool : List Nat} {os : List Ob} (h : HSt w p c zs pool os wr) : Below w.heap.size w wr := by obtain ⟨m, hG, hh, _, hb⟩ := h; exact hb
theorem HSt.later {w wr w' : World} {p : Pl} {c : Cf} {zs : List Int} {pool : List Nat} {os : List Ob} (h : HSt w p c zs pool os wr) (hb : Below wr.heap.size wr w') : HSt w p c zs pool os w' := by
  obtain ⟨m, hG, hh, hp, hB⟩ := h
  exact ⟨m, hG.later hb, hh, hp, below_step hB hb⟩
theorem HSt.notG {w wr : World} {p : Pl} {c : Cf} {zs : List Int} {pool : List Nat} {os : List Ob} (h : HSt w p c zs pool os wr) {i : Nat} (hi : wr.heap.size ≤ i) : ¬ ofG p i := by
  obtain ⟨m, hG, hh, hp, hB⟩ := h
  intro hx
  have := hG.ofG_lt hx
  omega
/-- A call, in terms of such a state. -/
theorem HSt.act {w wr : World} {p : Pl} {c : Cf} {zs zs' : List Int} {pool pool' : List Nat} {os os' : List Ob} {f : FuncId} {args : List Value} {B : Nat} {v : Value} (h : HSt w p c zs pool os wr) (ha : Acts c f args zs B zs' v) (hh : HeapAt c zs' pool' os') :
    Calls Tryz.prog f (List.toArray (.pointer (some ⟨p.a, 0, none⟩) :: args)) wr fun e w' => e = .returned v ∧ HSt w p c zs' pool' os' w' ∧ Touch (inG p) wr w' := by
  obtain ⟨m, hG, _, hp, hB⟩ := h
  obtain ⟨d, _, H⟩ := ha
  refine (H p m wr hG).mono ?_
  rintro e w' ⟨rfl, hG', hT⟩
  exact ⟨rfl, ⟨_, hG', hh, hp, hB.trans (hT.below hp hB.size)⟩, hT⟩
end Go.Proofs.YtljdbaddockfcaaGreat.Pk

/-
  Layer 11: the law of fields apart, of packages pool and obj that do what they must.
-/
namespace Go.Proofs.YtljdbaddockfcaaGreat.Pk
open Go.RowKit
set_option linter.unusedVariables false
set_option linter.unusedSimpArgs false

/-- An object that was seen: its box, and both rows, in blocks from lo on, below hi. -/
structure Seen (w : World) (q lo hi : Nat) (P D : List Int) (n1 n2 : Nat) (a1 : Option Addr) (c1 : Nat) (a2 : Option Addr) (c2 : Nat) : Prop where
  box : Blk w q #[.slice a1 n1 c1, .slice a2 n2 c2] 82
  r1 : OwnR w .i64 a1 P
  r2 : OwnR w .u32 a2 D
  l1 : P.length = n1
  l2 : D.length = n2
  hq : lo ≤ q ∧ q < hi
  h1 : ∀ b off, a1 = some ⟨b, off, none⟩ → lo ≤ b ∧ b < hi ∧ b ≠ q
  h2 : ∀ b off, a2 = some ⟨b, off, none⟩ → lo ≤ b ∧ b < hi ∧ b ≠ q
  h12 : ∀ b off b' off', a1 = some ⟨b, off, none⟩ → a2 = some ⟨b', off', none⟩ → b ≠ b'
theorem Seen.touch {X : Nat → Prop} {w w' : World} {q lo hi : Nat} {P D : List Int} {n1 n2 : Nat} {a1 : Option Addr} {c1 : Nat} {a2 : Option Addr} {c2 : Nat} (h : Seen w q lo hi P D n1 n2 a1 c1 a2 c2) (t : Touch X w w') (hx : ∀ i, lo ≤ i → i < hi → ¬ X i) : Seen w' q lo hi P D n1 n2 a1 c1 a2 c2 :=
  ⟨h.box.touch t (hx q h.hq.1 h.hq.2), h.r1.touch t (fun _ b off e => hx b (h.h1 b off e).1 (h.h1 b off e).2.1), h.r2.touch t (fun _ b off e => hx b (h.h2 b off e).1 (h.h2 b off e).2.1), h.l1, h.l2, h.hq, h.h1, h.h2, h.h12⟩
theorem Seen.later {w w' : World} {q lo hi : Nat} {P D : List Int} {n1 n2 : Nat} {a1 : Option Addr} {c1 : Nat} {a2 : Option Addr} {c2 : Nat} (h : Seen w q lo hi P D n1 n2 a1 c1 a2 c2) (hb : Below w.heap.size w w') : Seen w' q lo hi P D n1 n2 a1 c1 a2 c2 :=
  ⟨h.box.later hb, h.r1.later hb, h.r2.later hb, h.l1, h.l2, h.hq, h.h1, h.h2, h.h12⟩
theorem Seen.drw {w w' : World} {q lo hi : Nat} {P D : List Int} {n1 n2 : Nat} {a1 : Option Addr} {c1 : Nat} {a2 : Option Addr} {c2 : Nat} (h : Seen w q lo hi P D n1 n2 a1 c1 a2 c2) (hb : Drw w w') : Seen w' q lo hi P D n1 n2 a1 c1 a2 c2 := h.later hb.new
end Go.Proofs.YtljdbaddockfcaaGreat.Pk

/-
  Layer 11: what is left of a heap's words when an object is made, shed, ended. No program in sight.
-/
namespace Go.Proofs.YtljdbaddockfcaaGreat.Pk
open Go.RowKit
set_option linter.unusedVariables false
set_option linter.unusedSimpArgs false

theorem adr_ge (c : Cf) (b v : Nat) : ¬ adr c b v < 3 := by unfold adr; omega
/-! ### Blocks are taken -/
/-- .. one after another. -/
def takenZ (c : Cf) : List Nat → List Int → List Int
  | [], zs => zs
  | b :: l, zs => takenZ c l (poolTakeZ c b zs)
theorem takenZ_snoc (c : Cf) (l : List Nat) (b : Nat) (zs : List Int) : takenZ c (l ++ [b]) zs = poolTakeZ c b (takenZ c l zs) := by
  induction l generalizing zs with
  | nil => rfl
  | cons x t ih => exact ih _
theorem takenZ_length (c : Cf) (l : List Nat) (zs : List Int) : (takenZ c l zs).length = zs.length := by
  induction l generalizing zs with
  | nil => rfl
  | cons x t ih => show (takenZ c t _).length = _; rw [ih, poolTakeZ_length]
theorem PoolAt.taken {c : Cf} {pool : List Nat} : ∀ (l : List Nat) {zs : List Int}, PoolAt c zs (l ++ pool) → c.May → zs.length = c.size → l.Nodup →
    PoolAt c (takenZ c l zs) pool ∧ (∀ b v, b ∈ l → v < c.W → nth (takenZ c l zs) (adr c b v) = 0) ∧ (∀ i, ¬ i < 3 → (∀ b, b ∈ l → ¬ inBlk c b i) → nth (takenZ c l zs) i = nth zs i)
  | [], zs, h, _, _, _ => ⟨h, fun b v hb => absurd hb (by simp), fun i _ _ => rfl⟩
  | x :: t, zs, h, hm, hz, hn => by
    obtain ⟨h1, h2⟩ := PoolAt.take (b := x) (l := t ++ pool) h hm hz
    have hn' := List.nodup_cons.1 hn
    have hz' : (poolTakeZ c x zs).length = c.size := by rw [poolTakeZ_length, hz]
    obtain ⟨a1, a2, a3⟩ := PoolAt.taken t h1 hm hz' hn'.2
    refine ⟨a1, fun b v hb hv => ?_, fun i h3 hi => ?_⟩
    · rcases List.mem_cons.1 hb with rfl | hb
      · rw [show takenZ c (b :: t) zs = takenZ c t (poolTakeZ c b zs) from rfl, a3 _ (adr_ge _ _ _) (fun b' hb' => inBlk_ne (fun e => hn'.1 (by rw [e]; exact hb')) hv)]
        exact h2 v hv
      · exact a2 b v hb hv
    · rw [show takenZ c (x :: t) zs = takenZ c t (poolTakeZ c x zs) from rfl, a3 i h3 (fun b hb => hi b (by simp [hb])), poolTake_out hm hz (hi x (by simp)) h3]

/-! ### A head is written -/
def headZ (c : Cf) (h : Nat) (t p d : Int) (z : List Int) : List Int := ((z.set (adr c h 0) t).set (adr c h 1) p).set (adr c h 2) d
/-- So many of its leaves' names. -/
def nameZ (c : Cf) (h : Nat) (ls : List Nat) : Nat → List Int → List Int
  | 0, z => z
  | k + 1, z => (nameZ c h ls k z).set (adr c h (8 + k)) (((ls.getD k 0 : Nat) : Int) + 1)
/-- So many leaves' tags. -/
def ownZ (c : Cf) (h : Nat) (ls : List Nat) : Nat → List Int → List Int
  | 0, z => z
  | k + 1, z => (ownZ c h ls k z).set (adr c (ls.getD k 0) 0) (3 + 256 * (h : Int))
theorem nameZ_length (c : Cf) (h : Nat) (ls : List Nat) (k : Nat) (z : List Int) : (nameZ c h ls k z).length = z.length := by
  induction k with
  | zero => rfl
  | succ k ih => show ((nameZ c h ls k z).set _ _).length = _; rw [List.length_set, ih]
theorem ownZ_length (c : Cf) (h : Nat) (ls : List Nat) (k : Nat) (z : List Int) : (ownZ c h ls k z).length = z.length := by
  induction k with
  | zero => rfl
  | succ k ih => show ((ownZ c h ls k z).set _ _).length = _; rw [List.length_set, ih]
theorem nameZ_out (c : Cf) (h : Nat) (ls : List Nat) (z : List Int) (i : Nat) : ∀ k, (∀ j, j < k → i ≠ adr c h (8 + j)) → nth (nameZ c h ls k z) i = nth z i
  | 0, _ => rfl
  | k + 1, hi => by
    show nth ((nameZ c h ls k z).set _ _) i = _
    rw [nth_set_ne (fun e => hi k (by omega) e.symm), nameZ_out c h ls z i k (fun j hj => hi j (by omega))]
theorem nameZ_in {c : Cf} {h : Nat} (ls : List Nat) {z : List Int} (hz : z.length = c.size) (hh : h < c.N) : ∀ k, 8 + k ≤ c.W → ∀ j, j < k → nth (nameZ c h ls k z) (adr c h (8 + j)) = ((ls.getD j 0 : Nat) : Int) + 1
  | 0, _, j, hj => absurd hj (by omega)
  | k + 1, hk, j, hj => by
    show nth ((nameZ c h ls k z).set _ _) _ = _
    by_cases e : j = k
    · subst e
      exact nth_set_eq (by rw [nameZ_length, hz]; exact adr_lt hh (by omega)) _
    · rw [nth_set_ne (fun e2 => e (by have := (adr_inj (by omega) (by omega) e2).2; omega)), nameZ_in ls hz hh k (by omega) j (by omega)]
theorem ownZ_out (c : Cf) (h : Nat) (ls : List Nat) (z : List Int) (i : Nat) : ∀ k, (∀ j, j < k → i ≠ adr c (ls.getD j 0) 0) → nth (ownZ c h ls k z) i = nth z i
  | 0, _ => rfl
  | k + 1, hi => by
    show nth ((ownZ c h ls k z).set _ _) i = _
    rw [nth_set_ne (fun e => hi k (by omega) e.symm), ownZ_out c h ls z i k (fun j hj => hi j (by omega))]
theorem ownZ_in {c : Cf} {h : Nat} (ls : List Nat) {z : List Int} (hw : 0 < c.W) (hz : z.length = c.size) (hl : ∀ j, j < ls.length → ls.getD j 0 < c.N) : ∀ k, k ≤ ls.length → ∀ j, j < k → nth (ownZ c h ls k z) (adr c (ls.getD j 0) 0) = 3 + 256 * (h : Int)
  | 0, _, j, hj => absurd hj (by omega)
  | k + 1, hk, j, hj => by
    show nth ((ownZ c h ls k z).set _ _) _ = _
    rw [nth_set (by rw [ownZ_length, hz]; exact adr_lt (hl k (by omega)) hw)]
    by_cases e : adr c (ls.getD j 0) 0 = adr c (ls.getD k 0) 0
    · rw [if_pos e]
    · rw [if_neg e, ownZ_in ls hw hz hl k (by omega) j (by
        by_cases e2 : j = k
        · subst e2; exact absurd rfl e
        · omega)]
theorem headZ_length (c : Cf) (h : Nat) (t p d : Int) (z : List Int) : (headZ c h t p d z).length = z.length := by unfold headZ; simp
theorem headZ_only {c : Cf} (hw : 3 ≤ c.W) (h : Nat) (t p d : Int) (z : List Int) : BlkOnly c h z (headZ c h t p d z) :=
  ((BlkOnly.set (by omega) t).trans (BlkOnly.set (by omega) p)).trans (BlkOnly.set (by omega) d)
theorem nameZ_only {c : Cf} {h : Nat} (ls : List Nat) (z : List Int) : ∀ k, 8 + k ≤ c.W → BlkOnly c h z (nameZ c h ls k z)
  | 0, _ => BlkOnly.refl _ _ _
  | k + 1, hk => (nameZ_only ls z k (by omega)).trans (BlkOnly.set (by omega) _)
theorem PoolAt.owned {c : Cf} {h : Nat} {ls pool : List Nat} {z : List Int} (hP : PoolAt c z pool) (hm : c.May) (hl : ∀ j, j < ls.length → ls.getD j 0 ∉ pool) : ∀ k, k ≤ ls.length → PoolAt c (ownZ c h ls k z) pool
  | 0, _ => hP
  | k + 1, hk => (PoolAt.owned hP hm hl k (by omega)).only hm (hl k (by omega)) (BlkOnly.set (by have := hm.w; omega) _)
theorem headZ_nth {c : Cf} {h : Nat} {z : List Int} (hw : 3 ≤ c.W) (hz : z.length = c.size) (hh : h < c.N) (t p d : Int) :
    nth (headZ c h t p d z) (adr c h 0) = t ∧ nth (headZ c h t p d z) (adr c h 1) = p ∧ nth (headZ c h t p d z) (adr c h 2) = d ∧ ∀ v, 3 ≤ v → v < c.W → nth (headZ c h t p d z) (adr c h v) = nth z (adr c h v) := by
  have l : ∀ v, v < c.W → adr c h v < c.size := fun v hv => adr_lt hh hv
  have n : ∀ u v : Nat, u < c.W → v < c.W → u ≠ v → adr c h u ≠ adr c h v := fun u v hu hv h e => h (adr_inj hu hv e).2
  unfold headZ
  refine ⟨?_, ?_, ?_, fun v h3 hv => ?_⟩
  · rw [nth_set_ne (n 2 0 (by omega) (by omega) (by omega)), nth_set_ne (n 1 0 (by omega) (by omega) (by omega)), nth_set_eq (by rw [hz]; exact l 0 (by omega))]
  · rw [nth_set_ne (n 2 1 (by omega) (by omega) (by omega)), nth_set_eq (by simp [hz]; exact l 1 (by omega))]
  · rw [nth_set_eq (by simp [hz]; exact l 2 (by omega))]
  · rw [nth_set_ne (n 2 v (by omega) hv (by omega)), nth_set_ne (n 1 v (by omega) hv (by omega)), nth_set_ne (n 0 v (by omega) hv (by omega))]

/-! ### An object is made -/
def kindOf (ls : List Nat) : Int := if ls.length = 0 then 1 else 2
def madeZ (c : Cf) (h : Nat) (ls : List Nat) (p d : Int) (zs : List Int) : List Int := ownZ c h ls ls.length (nameZ c h ls ls.length (headZ c h (kindOf ls) p d (takenZ c (h :: ls) zs)))
theorem newOb_leaves (h p d : Nat) (ls : List Nat) : (newOb h p d ls).leaves = ls := by
  unfold Ob.leaves newOb
  rw [List.filterMap_map]
  have : ((fun n => if n = 0 then none else some (n - 1)) ∘ fun x => x + 1) = (some : Nat → Option Nat) := by funext x; simp
  rw [this, List.filterMap_some]
theorem tagOk1 : TagOk 1 := by unfold TagOk RightT uK uC uN uS uD uG uO; decide
theorem tagOk2 : TagOk 2 := by unfold TagOk RightT uK uC uN uS uD uG uO; decide
theorem made_ob {c : Cf} {zs : List Int} {h : Nat} {ls pool : List Nat} {os : List Ob} {p d : Nat} (hm : c.May) (hz : zs.length = c.size) (H : HeapAt c zs (h :: ls ++ pool) os) (he : sizeE c.W p d = 0) (hb : (1 + ls.length : Int) = blocksV c.W p d) :
    MadeOb c zs (madeZ c h ls p d zs) pool os (newOb h p d ls) := by
  have hw := hm.w
  obtain ⟨q0, q1, q2, q3, q4⟩ := sizeE_ok he
  have hlv : (ls.length : Int) = leavesI c.W (p + d) := by unfold blocksV at hb; rw [if_pos he] at hb; omega
  have hL := leaves_bd q0 q1 q4
  have hnd : (h :: ls).Nodup := by
    have := H.nodup
    rw [List.append_assoc] at this
    exact (List.nodup_append.1 this).1
  have hnp : ∀ b, b ∈ h :: ls → b ∉ pool := fun b hb' hp => by
    have := (List.nodup_append.1 H.nodup).1
    exact (List.nodup_append.1 this).2.2 b hb' b hp rfl
  have hN : ∀ b, b ∈ h :: ls → b < c.N := fun b hb' => List.mem_range.1 (H.perm.mem_iff.1 (List.mem_append_left _ (List.mem_append_left _ hb')))
  have hno : ∀ b o, o ∈ os → b ∈ o.blocks → b ∉ h :: ls := fun b o ho hbo hx => H.notPool ho hbo (List.mem_append_left _ hx)
  obtain ⟨D1, D2, D3⟩ := PoolAt.taken (h :: ls) (pool := pool) H.pl hm hz hnd
  have hhl : h ∉ ls := (List.nodup_cons.1 hnd).1
  have hhN := hN h (by simp)
  have hget : ∀ j, j < ls.length → ls.getD j 0 ∈ ls := fun j hj => by simp [List.getD, hj]
  generalize eD : takenZ c (h :: ls) zs = D at *
  have hDl : D.length = c.size := by rw [← eD, takenZ_length, hz]
  generalize eH : headZ c h (kindOf ls) p d D = Hd at *
  have hHl : Hd.length = c.size := by rw [← eH, headZ_length, hDl]
  obtain ⟨b0, b1, b2, b3⟩ := headZ_nth (c := c) (h := h) (z := D) (by omega) hDl hhN (kindOf ls) p d
  rw [eH] at b0 b1 b2 b3
  have hHo : BlkOnly c h D Hd := by rw [← eH]; exact headZ_only (by omega) _ _ _ _ _
  have hk : 8 + ls.length ≤ c.W := by omega
  generalize eN : nameZ c h ls ls.length Hd = Nm at *
  have hNl : Nm.length = c.size := by rw [← eN, nameZ_length, hHl]
  have hNo : BlkOnly c h Hd Nm := by rw [← eN]; exact nameZ_only ls Hd _ hk
  have hlN : ∀ j, j < ls.length → ls.getD j 0 < c.N := fun j hj => hN _ (List.mem_cons_of_mem _ (hget j hj))
  have eM : madeZ c h ls p d zs = ownZ c h ls ls.length Nm := by unfold madeZ; rw [eD, eH, eN]
  rw [eM]
  -- what stands where
  have A : ∀ i, (∀ b, b ∈ h :: ls → ¬ inBlk c b i) → nth (ownZ c h ls ls.length Nm) i = nth D i := fun i hi => by
    rw [ownZ_out c h ls Nm i _ (fun j hj e => hi _ (List.mem_cons_of_mem _ (hget j hj)) (by rw [e]; exact inBlk_adr (by omega))), hNo.2 i (hi h (by simp)), hHo.2 i (hi h (by simp))]
  have Bh : ∀ v, v < c.W → nth (ownZ c h ls ls.length Nm) (adr c h v) = nth Nm (adr c h v) := fun v hv =>
    ownZ_out c h ls Nm _ _ (fun j hj e => hhl (by rw [(adr_inj hv (by omega) e).1]; exact hget j hj))
  have Bl : ∀ v, v < 8 → nth Nm (adr c h v) = nth Hd (adr c h v) := fun v hv => by
    rw [← eN]
    exact nameZ_out c h ls Hd _ _ (fun j hj e => by have := (adr_inj (by omega) (by omega) e).2; omega)
  have Bn : ∀ j, j < ls.length → nth Nm (adr c h (8 + j)) = ((ls.getD j 0 : Nat) : Int) + 1 := fun j hj => by rw [← eN]; exact nameZ_in ls hHl hhN _ hk j hj
  have Bz : ∀ v, 3 ≤ v → v < c.W → nth D (adr c h v) = 0 := fun v h3 hv => D2 h v (by simp) hv
  have C0 : ∀ b, b ∈ ls → nth (ownZ c h ls ls.length Nm) (adr c b 0) = 3 + 256 * (h : Int) := fun b hb' => by
    obtain ⟨j, hj, rfl⟩ := List.getElem_of_mem hb'
    have := ownZ_in (h := h) ls (by omega) hNl hlN ls.length (Nat.le_refl _) j hj
    rw [show ls.getD j 0 = ls[j] by simp [List.getD, hj]] at this
    exact this
  have C1 : ∀ b v, b ∈ ls → 1 ≤ v → v < c.W → nth (ownZ c h ls ls.length Nm) (adr c b v) = 0 := fun b v hb' h1 hv => by
    have hne : b ≠ h := fun e => hhl (by rw [← e]; exact hb')
    rw [ownZ_out c h ls Nm _ _ (fun j hj e => by have := (adr_inj hv (by omega) e).2; omega), hNo.2 _ (inBlk_ne hne hv), hHo.2 _ (inBlk_ne hne hv)]
    exact D2 b v (List.mem_cons_of_mem _ hb') hv
  have hsm : (newOb h p d ls).f ≤ c.W - 8 ↔ ls.length = 0 := by
    show p + d ≤ c.W - 8 ↔ _
    constructor
    · intro hs
      rw [leaves_small (by omega)] at hlv
      omega
    · intro h0
      by_cases hs : p + d ≤ c.W - 8
      · exact hs
      · have := (leaves_big (W := c.W) (n := (p : Int) + d) q0 q1 (by omega) q4).1
        omega
  have hmem : ∀ b, b + 1 ∈ (newOb h p d ls).lv → b ∈ ls := fun b hb' => by
    have := Ob.mem_leaves.2 hb'
    rw [newOb_leaves] at this
    exact this
  have hblk : (newOb h p d ls).blocks = h :: ls := by unfold Ob.blocks; rw [newOb_leaves]; rfl
  have hObj : ObjAt c (ownZ c h ls ls.length Nm) (newOb h p d ls) := by
    refine ⟨hhN, fun b hb' => hN b (List.mem_cons_of_mem _ (hmem b hb')), ?_, ?_, by show ((p + d : Nat) : Int) ≤ _; omega, by show (((ls.map (· + 1)).length : Nat) : Int) = leavesI c.W ((p + d : Nat) : Int); rw [List.length_map, hlv]; congr 1, ?_, ?_, fun j hj => ?_, fun b hb' => C0 b (hmem b hb')⟩
    · show nth _ (adr c h 1) = (p : Int); rw [Bh 1 (by omega), Bl 1 (by omega), b1]
    · show nth _ (adr c h 2) = (d : Int); rw [Bh 2 (by omega), Bl 2 (by omega), b2]
    · show TagOk (nth _ (adr c h 0)); rw [Bh 0 (by omega), Bl 0 (by omega), b0]; unfold kindOf; split; (· exact tagOk1); (· exact tagOk2)
    · show uK (nth _ (adr c h 0)) = _
      rw [Bh 0 (by omega), Bl 0 (by omega), b0]
      unfold kindOf
      by_cases h0 : ls.length = 0
      · rw [if_pos h0, if_pos (hsm.2 h0)]; rfl
      · rw [if_neg h0, if_neg (fun hs => h0 (hsm.1 hs))]; rfl
    · have hj' : j < ls.length := by simpa [newOb] using hj
      show nth _ (adr c h (8 + j)) = _
      rw [Bh _ (by omega), Bn j hj']
      simp [newOb, List.getD, hj']
  refine ⟨⟨?_, fun o ho => ?_, ?_⟩, ?_, fun v h3 h8 => ?_, fun i hi => ?_, fun i h3 hi => ?_⟩
  · refine PoolAt.owned ?_ hm (fun j hj => hnp _ (List.mem_cons_of_mem _ (hget j hj))) _ (Nat.le_refl _)
    exact (D1.only hm (hnp h (by simp)) hHo).only hm (hnp h (by simp)) hNo
  · rcases List.mem_append.1 ho with ho | ho
    · have hA' := H.obs o ho
      have g : ∀ b v, b ∈ o.blocks → v < c.W → nth (ownZ c h ls ls.length Nm) (adr c b v) = nth zs (adr c b v) := fun b v hbo hv => by
        have hne : ∀ x, x ∈ h :: ls → ¬ inBlk c x (adr c b v) := fun x hx => inBlk_ne (fun e => hno b o ho hbo (by rw [e]; exact hx)) hv
        rw [A _ hne, D3 _ (adr_ge _ _ _) hne]
      have hl := hA'.lvW hm
      have hhm : o.h ∈ o.blocks := by unfold Ob.blocks; simp
      refine hA'.congr ?_ ?_ ?_ (fun j hj => ?_) (fun b hb' => ?_)
      · rw [g _ 0 hhm (by omega)]; exact ⟨hA'.tok, rfl⟩
      · exact g _ 1 hhm (by omega)
      · exact g _ 2 hhm (by omega)
      · exact g _ (8 + j) hhm (by omega)
      · exact g _ 0 (by unfold Ob.blocks; exact List.mem_cons_of_mem _ (Ob.mem_leaves.2 hb')) (by omega)
    · rw [List.mem_singleton.1 ho]; exact hObj
  · have hp := H.perm
    rw [List.flatMap_append, List.flatMap_cons, List.flatMap_nil, List.append_nil, hblk, ← List.append_assoc]
    refine List.Perm.trans List.perm_append_comm ?_
    rw [← List.append_assoc]
    exact hp
  · show nth _ (adr c h 0) = _
    rw [Bh 0 (by omega), Bl 0 (by omega), b0]
    unfold kindOf
    by_cases h0 : ls.length = 0
    · rw [if_pos h0, if_pos (hsm.2 h0)]
    · rw [if_neg h0, if_neg (fun hs => h0 (hsm.1 hs))]
  · show nth _ (adr c h v) = 0
    rw [Bh v (by omega), Bl v h8, b3 v h3 (by omega), Bz v h3 (by omega)]
  · by_cases hs : (newOb h p d ls).f ≤ c.W - 8
    · have h0 := hsm.1 hs
      have hi' : 8 + i < c.W := by omega
      unfold fldV fieldA
      rw [fieldP_small hs]
      show nth _ (adr c h (8 + i)) = 0
      have hN0 : nth Nm (adr c h (8 + i)) = nth Hd (adr c h (8 + i)) := by
        rw [← eN]
        exact nameZ_out c h ls Hd _ _ (fun j hj e => by omega)
      rw [Bh _ hi', hN0, b3 _ (by omega) hi', Bz _ (by omega) hi']
    · have hpl := hObj.place hm hs hi
      have hpl' : i / (c.W - 1) < ls.length := by simpa [newOb] using hpl
      have hg : (newOb h p d ls).lv[i / (c.W - 1)]? = some (ls[i / (c.W - 1)] + 1) := by simp [newOb, hpl']
      unfold fldV fieldA
      rw [fieldP_big hs hg]
      have := Nat.mod_lt i (show 0 < c.W - 1 by omega)
      exact C1 _ _ (List.getElem_mem hpl') (by omega) (by omega)
  · rw [hblk] at hi
    rw [A i hi, D3 i h3 hi]

/-! ### A leaf is shed, an object is ended -/
theorem heads_sub : ∀ (os : List Ob), (os.map Ob.h).Sublist (os.flatMap Ob.blocks)
  | [] => by simp
  | x :: t => by
    rw [List.map_cons, List.flatMap_cons]
    unfold Ob.blocks
    exact (List.Sublist.trans (heads_sub t) (List.sublist_append_right _ _)).cons_cons x.h
theorem HeapAt.headsNd {c : Cf} {zs : List Int} {pool : List Nat} {os : List Ob} (h : HeapAt c zs pool os) : (os.map Ob.h).Nodup := h.nodupB.sublist (heads_sub os)
/-- Those beside one have other heads. -/
theorem HeapAt.split {c : Cf} {zs : List Int} {pool : List Nat} {os : List Ob} {o : Ob} (h : HeapAt c zs pool os) (ho : o ∈ os) : ∃ s t, os = s ++ o :: t ∧ (∀ x, x ∈ s → x.h ≠ o.h) ∧ (∀ x, x ∈ t → x.h ≠ o.h) := by
  obtain ⟨s, t, rfl⟩ := List.append_of_mem ho
  have hn := h.headsNd
  rw [List.map_append, List.map_cons, List.nodup_append] at hn
  obtain ⟨n1, n2, n3⟩ := hn
  refine ⟨s, t, rfl, fun x hx e => n3 x.h (List.mem_map_of_mem hx) o.h (by simp) e, fun x hx e => (List.nodup_cons.1 n2).1 (by rw [← e]; exact List.mem_map_of_mem hx)⟩
theorem map_id_of {os : List Ob} {f : Ob → Ob} (h : ∀ x, x ∈ os → f x = x) : os.map f = os := by
  induction os with
  | nil => rfl
  | cons x t ih => rw [List.map_cons, h x (by simp), ih (fun y hy => h y (by simp [hy]))]
theorem filter_id_of {os : List Ob} {f : Ob → Bool} (h : ∀ x, x ∈ os → f x = true) : os.filter f = os := List.filter_eq_self.2 h
theorem shed_leaves {o : Ob} {j b : Nat} (hj : o.lv[j]? = some (b + 1)) : o.leaves.Perm (b :: (shedOb o j).leaves) := by
  unfold Ob.leaves shedOb
  have hlt : j < o.lv.length := (List.getElem?_eq_some_iff.1 hj).1
  have he : o.lv = o.lv.take j ++ (b + 1) :: o.lv.drop (j + 1) := by
    have h1 := (List.take_append_drop j o.lv).symm
    rw [List.drop_eq_getElem_cons hlt] at h1
    rw [(List.getElem?_eq_some_iff.1 hj).2] at h1
    exact h1
  have hs : o.lv.set j 0 = o.lv.take j ++ 0 :: o.lv.drop (j + 1) := List.set_eq_take_append_cons_drop ▸ by rw [if_pos hlt]
  show (o.lv.filterMap _).Perm (b :: (o.lv.set j 0).filterMap _)
  rw [hs]
  conv => lhs; rw [he]
  rw [List.filterMap_append, List.filterMap_append, List.filterMap_cons, List.filterMap_cons]
  simp only [Nat.add_eq_zero_iff, Nat.one_ne_zero, and_false, if_false, if_true, Nat.add_sub_cancel]
  exact List.perm_middle
theorem HeapAt.shed {c : Cf} {zs : List Int} {pool : List Nat} {os : List Ob} {o : Ob} {j b : Nat} (H : HeapAt c zs pool os) (hm : c.May) (hz : zs.length = c.size) (ho : o ∈ os) (hj : o.lv[j]? = some (b + 1)) :
    HeapAt c ((poolGiveZ c b zs).set (adr c o.h (8 + j)) 0) (b :: pool) (shedOs os o j) ∧ ∀ i, ¬ i < 3 → i ≠ adr c o.h (8 + j) → i ≠ adr c b 0 → i ≠ adr c b 5 → nth ((poolGiveZ c b zs).set (adr c o.h (8 + j)) 0) i = nth zs i := by
  have hw := hm.w
  have hA := H.obs o ho
  have hlW := hA.lvW hm
  have hjl : j < o.lv.length := (List.getElem?_eq_some_iff.1 hj).1
  have hbl : b ∈ o.leaves := Ob.mem_leaves.2 (List.mem_of_getElem? hj)
  have hbb : b ∈ o.blocks := by unfold Ob.blocks; exact List.mem_cons_of_mem _ hbl
  have hhb : o.h ∈ o.blocks := by unfold Ob.blocks; simp
  have hne : o.h ≠ b := fun e => (List.nodup_cons.1 (H.ownB ho)).1 (by rw [e]; exact hbl)
  have hbN := H.lt ho hbb
  have hbp := H.notPool ho hbb
  have hzg : (poolGiveZ c b zs).length = c.size := by rw [poolGiveZ_length, hz]
  have out : ∀ i, ¬ i < 3 → i ≠ adr c o.h (8 + j) → i ≠ adr c b 0 → i ≠ adr c b 5 → nth ((poolGiveZ c b zs).set (adr c o.h (8 + j)) 0) i = nth zs i := fun i h3 h1 h2 h5 => by
    rw [nth_set_ne (fun e => h1 e.symm), poolGive_out hm hz h2 h5 h3]
  have outA : ∀ x v, v < c.W → x ≠ b → (x ≠ o.h ∨ v ≠ 8 + j) → nth ((poolGiveZ c b zs).set (adr c o.h (8 + j)) 0) (adr c x v) = nth zs (adr c x v) := fun x v hv hx h1 =>
    out _ (adr_ge _ _ _) (fun e => by
      have := adr_inj hv (by omega) e
      rcases h1 with h1 | h1
      · exact h1 this.1
      · exact h1 this.2) (fun e => hx (adr_inj hv (by omega) e).1) (fun e => hx (adr_inj hv (by omega) e).1)
  obtain ⟨s, t, hst, hs, ht⟩ := H.split ho
  have hos : shedOs os o j = s ++ shedOb o j :: t := by
    unfold shedOs
    rw [hst, List.map_append, List.map_cons, map_id_of (fun x hx => if_neg (hs x hx)), map_id_of (fun x hx => if_neg (ht x hx)), if_pos rfl]
  have old : ∀ x, x ∈ os → x.h ≠ o.h → ObjAt c ((poolGiveZ c b zs).set (adr c o.h (8 + j)) 0) x := fun x hx hxh => by
    have hA' := H.obs x hx
    have hnb : ∀ y, y ∈ x.blocks → y ≠ b ∧ y ≠ o.h := fun y hy => ⟨fun e => hxh (by rw [H.own hx ho hy (by rw [e]; exact hbb)]), fun e => hxh (by rw [H.own hx ho hy (by rw [e]; exact hhb)])⟩
    have hxm : x.h ∈ x.blocks := by unfold Ob.blocks; simp
    have hl := hA'.lvW hm
    have g : ∀ y v, y ∈ x.blocks → v < c.W → _ := fun y v hy hv => outA y v hv (hnb y hy).1 (.inl (hnb y hy).2)
    refine hA'.congr ?_ (g _ 1 hxm (by omega)) (g _ 2 hxm (by omega)) (fun k hk => g _ (8 + k) hxm (by omega)) (fun y hy => g _ 0 (by unfold Ob.blocks; exact List.mem_cons_of_mem _ (Ob.mem_leaves.2 hy)) (by omega))
    rw [g _ 0 hxm (by omega)]; exact ⟨hA'.tok, rfl⟩
  have new : ObjAt c ((poolGiveZ c b zs).set (adr c o.h (8 + j)) 0) (shedOb o j) := by
    have hset : ∀ y, y + 1 ∈ o.lv.set j 0 → y + 1 ∈ o.lv ∧ y ≠ b := fun y hy => by
      obtain ⟨k, hk, e⟩ := List.getElem_of_mem hy
      have hk' : k < o.lv.length := by simpa using hk
      rw [List.getElem_set] at e
      by_cases ekj : j = k
      · rw [if_pos ekj] at e; omega
      · rw [if_neg ekj] at e
        refine ⟨by rw [← e]; exact List.getElem_mem hk', fun eb => ekj ?_⟩
        subst eb
        exact leaf_once (List.nodup_cons.1 (H.ownB ho)).2 hj (List.getElem?_eq_some_iff.2 ⟨hk', e⟩)
    refine ⟨hA.hlt, fun y hy => hA.llt y (hset y hy).1, ?_, ?_, hA.size, by show (((o.lv.set j 0).length : Nat) : Int) = _; rw [List.length_set]; exact hA.lvs, ?_, ?_, fun k hk => ?_, fun y hy => ?_⟩
    · show nth _ (adr c o.h 1) = _; rw [outA o.h 1 (by omega) hne (.inr (by omega))]; exact hA.w1
    · show nth _ (adr c o.h 2) = _; rw [outA o.h 2 (by omega) hne (.inr (by omega))]; exact hA.w2
    · show TagOk (nth _ (adr c o.h 0)); rw [outA o.h 0 (by omega) hne (.inr (by omega))]; exact hA.tok
    · show uK (nth _ (adr c o.h 0)) = _; rw [outA o.h 0 (by omega) hne (.inr (by omega))]; exact hA.kind
    · have hk' : k < o.lv.length := by simpa [shedOb] using hk
      show nth _ (adr c o.h (8 + k)) = (((o.lv.set j 0)[k]'(by simpa using hk') : Nat) : Int)
      rw [List.getElem_set]
      by_cases e : j = k
      · subst e
        rw [if_pos rfl, nth_set_eq (by rw [hzg]; exact adr_lt hA.hlt (by omega))]
        rfl
      · rw [if_neg e, outA o.h (8 + k) (by omega) hne (.inr (by omega))]
        exact hA.own k hk'
    · obtain ⟨y1, y2⟩ := hset y hy
      have hyh : y ≠ o.h := fun e => (List.nodup_cons.1 (H.ownB ho)).1 (by rw [← e]; exact Ob.mem_leaves.2 y1)
      show nth _ (adr c y 0) = _
      rw [outA y 0 (by omega) y2 (.inl hyh)]
      exact hA.leaf y y1
  refine ⟨⟨?_, fun x hx => ?_, ?_⟩, out⟩
  · refine (PoolAt.give H.pl hm hz hbN hbp).1.only hm (b := o.h) ?_ (BlkOnly.set (by omega) 0)
    intro hx
    rcases List.mem_cons.1 hx with e | hx
    · exact hne e
    · exact H.notPool ho hhb hx
  · rw [hos] at hx
    rcases List.mem_append.1 hx with hx | hx
    · exact old x (by rw [hst]; exact List.mem_append_left _ hx) (hs x hx)
    · rcases List.mem_cons.1 hx with rfl | hx
      · exact new
      · exact old x (by rw [hst]; exact List.mem_append_right _ (List.mem_cons_of_mem _ hx)) (ht x hx)
  · have hp := H.perm
    rw [hos]
    rw [hst] at hp
    refine List.Perm.trans ?_ hp
    rw [List.cons_append]
    refine List.Perm.trans List.perm_middle.symm ?_
    refine List.Perm.append_left pool ?_
    rw [List.flatMap_append, List.flatMap_append, List.flatMap_cons, List.flatMap_cons]
    refine List.Perm.trans List.perm_middle.symm ?_
    refine List.Perm.append_left _ ?_
    rw [← List.cons_append]
    refine List.Perm.append_right _ ?_
    show (b :: o.h :: (shedOb o j).leaves).Perm (o.h :: o.leaves)
    exact (List.Perm.swap _ _ _).trans ((shed_leaves hj).symm.cons o.h)
theorem HeapAt.ended {c : Cf} {zs : List Int} {pool : List Nat} {os : List Ob} {o : Ob} (H : HeapAt c zs pool os) (hm : c.May) (hz : zs.length = c.size) (ho : o ∈ os) (hl : o.leaves = []) :
    HeapAt c (poolGiveZ c o.h zs) (o.h :: pool) (os.filter (fun x => x.h != o.h)) ∧ ∀ i, ¬ i < 3 → i ≠ adr c o.h 0 → i ≠ adr c o.h 5 → nth (poolGiveZ c o.h zs) i = nth zs i := by
  have hw := hm.w
  have hhb : o.h ∈ o.blocks := by unfold Ob.blocks; simp
  have hbN := H.lt ho hhb
  have hbp := H.notPool ho hhb
  obtain ⟨s, t, hst, hs, ht⟩ := H.split ho
  have hos : os.filter (fun x => x.h != o.h) = s ++ t := by
    rw [hst, List.filter_append, List.filter_cons, filter_id_of (fun x hx => by simpa using hs x hx), filter_id_of (fun x hx => by simpa using ht x hx)]
    simp
  refine ⟨⟨(PoolAt.give H.pl hm hz hbN hbp).1, fun x hx => ?_, ?_⟩, fun i h3 h0 h5 => poolGive_out hm hz h0 h5 h3⟩
  · obtain ⟨hxo, hxh⟩ := List.mem_filter.1 hx
    have hxh : x.h ≠ o.h := by simpa using hxh
    have hA' := H.obs x hxo
    have hnb : ∀ y, y ∈ x.blocks → y ≠ o.h := fun y hy e => hxh (by rw [H.own hxo ho hy (by rw [e]; exact hhb)])
    have hxm : x.h ∈ x.blocks := by unfold Ob.blocks; simp
    have hl := hA'.lvW hm
    have g : ∀ y v, y ∈ x.blocks → v < c.W → nth (poolGiveZ c o.h zs) (adr c y v) = nth zs (adr c y v) := fun y v hy hv => poolGive_out hm hz (fun e => hnb y hy (adr_inj hv (by omega) e).1) (fun e => hnb y hy (adr_inj hv (by omega) e).1) (adr_ge _ _ _)
    refine hA'.congr ?_ (g _ 1 hxm (by omega)) (g _ 2 hxm (by omega)) (fun k hk => g _ (8 + k) hxm (by omega)) (fun y hy => g _ 0 (by unfold Ob.blocks; exact List.mem_cons_of_mem _ (Ob.mem_leaves.2 hy)) (by omega))
    rw [g _ 0 hxm (by omega)]; exact ⟨hA'.tok, rfl⟩
  · have hp := H.perm
    rw [hos]
    rw [hst] at hp
    refine List.Perm.trans ?_ hp
    rw [List.cons_append]
    refine List.Perm.trans List.perm_middle.symm ?_
    refine List.Perm.append_left pool ?_
    rw [List.flatMap_append, List.flatMap_append, List.flatMap_cons]
    refine List.Perm.trans List.perm_middle.symm ?_
    refine List.Perm.append_left _ ?_
    have e : o.blocks = [o.h] := by unfold Ob.blocks; rw [hl]
    rw [e]
    exact List.Perm.refl _


end Go.Proofs.YtljdbaddockfcaaGreat.Pk

/-
  What the functions of package chain must return for the laws (a bundle; ChainOk proves it of the landed code).
-/
namespace Go.Proofs.YtljdbaddockfcaaGreat.Pk
open Go.RowKit
set_option linter.unusedVariables false

/-- No chain, or an empty one. -/
def NoTake (c : Cf) (zs : List Int) (k : Int) : Prop := ¬ (k = 0 ∨ k = 1) ∨ ∃ j : Nat, k = (j : Int) ∧ j < 2 ∧ ChainAt c zs j []

/-- A new row of blocks' numbers. -/
def NewInts (w : World) (l : List Nat) (e : Ending) (w' : World) : Prop :=
  ∃ a cap, e = .returned (.slice a l.length cap) ∧ Row w' .i64 a (ints l) ∧ (∀ b off, a = some ⟨b, off, none⟩ → w.heap.size ≤ b) ∧ Below w.heap.size w w'
theorem NewRow.ints {w w' : World} {l : List Nat} {zs : List Int} {e : Ending} (h : NewRow w zs e w') (hz : zs = Pk.ints l) : NewInts w l e w' := by
  subst hz
  obtain ⟨a, cap, h1, h2, h3, h4⟩ := h
  rw [ints_length] at h1
  exact ⟨a, cap, h1, h2, h3, h4⟩

end Go.Proofs.YtljdbaddockfcaaGreat.Pk

/-
  Layer 9: the law's own tags, and the ground that it makes of kinds.
-/
namespace Go.Proofs.YtljdbaddockfcaaGreat.Pk
open Go.RowKit
set_option linter.unusedVariables false
set_option linter.unusedSimpArgs false

/-- Is a number one of a head's kind? -/
def headK (k : Int) : Bool := k % 4 == 1 || k % 4 == 2
def tgC (k : Int) : Int := if headK k = true then k / 4 % 2 else 0
def tgS (k : Int) : Int := if headK k = true then k / 8 % 2 else 0
/-- The law's tag's word. -/
def tagW (k : Int) : Int := packI (k % 4) (tgC k) 0 (tgS k) 0 0 0
theorem headK_iff {k : Int} : headK k = true ↔ (k % 4 = 1 ∨ k % 4 = 2) := by unfold headK; simp
theorem tag_right (k : Int) : RightT (k % 4) (tgC k) 0 (tgS k) 0 0 0 := by
  unfold RightT tgC tgS
  by_cases h : headK k = true
  · rw [if_pos h, if_pos h]; rw [headK_iff] at h; omega
  · rw [if_neg h, if_neg h]; rw [headK_iff] at h; omega
theorem tag_bits (k : Int) : uK (tagW k) = k % 4 ∧ uG (tagW k) = 0 ∧ TagOk (tagW k) := by
  have h := tag_right k
  have hu := unpack_pack h
  refine ⟨hu.1, ?_, ?_⟩
  · unfold tagW uG packI; unfold RightT at h; omega
  · refine ⟨?_, ?_, ?_⟩
    · unfold tagW
      rw [hu.1, hu.2.1, hu.2.2.1, hu.2.2.2.1, hu.2.2.2.2.1, hu.2.2.2.2.2.1, hu.2.2.2.2.2.2]
      exact h
    · unfold tagW packI; unfold RightT at h; omega
    · unfold tagW packI; unfold RightT at h; omega
theorem tag_head {k : Int} : HeadT (tagW k) ↔ headK k = true := by unfold HeadT; rw [(tag_bits k).1, headK_iff]
/-- The words of the ground that the law makes, when j tags are laid. -/
def Made (c : Cf) (ks : List Int) (j : Nat) (zs : List Int) : Prop :=
  (∀ b, b < c.N → nth zs (adr c b 0) = if b < j then tagW (nth ks b) else 0) ∧ ∀ i, (∀ b, b < c.N → i ≠ adr c b 0) → nth zs i = 0
theorem Made.step {c : Cf} {ks : List Int} {j : Nat} {zs : List Int} (h : Made c ks j zs) (hm : c.May) (hz : zs.length = c.size) (hj : j < c.N) : Made c ks (j + 1) (zs.set (adr c j 0) (tagW (nth ks j))) := by
  have hl := adr_le hm hj (show 0 < 16 by omega)
  refine ⟨fun b hb => ?_, fun i hi => ?_⟩
  · rw [nth_set (by omega)]
    simp only [adr_i hm (show 0 < 16 by omega) (show 0 < 16 by omega), and_true]
    by_cases e : b = j
    · rw [if_pos e, if_pos (by omega), e]
    · rw [if_neg e, h.1 b hb]
      by_cases hlt : b < j
      · rw [if_pos hlt, if_pos (by omega)]
      · rw [if_neg hlt, if_neg (by omega)]
  · rw [nth_set (by omega), if_neg (hi j hj)]
    exact h.2 i hi
end Go.Proofs.YtljdbaddockfcaaGreat.Pk
