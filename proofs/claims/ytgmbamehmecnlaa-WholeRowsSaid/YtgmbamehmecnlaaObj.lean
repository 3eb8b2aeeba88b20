/-
  What the functions of package obj must return for the laws (a bundle; ObjFn proves it of the landed code).
-/
import Derived.Test.YtgmbamehmecnlaaObjMath
import Derived.Test.YtgmbamehmecnlaaBase
import Derived.Test.YtgmbamehmecnlaaLawKit
namespace Go.Proofs.Ytgmbamehmecnlaa.Pk
open Go.RowKit
set_option linter.unusedVariables false
set_option linter.unusedSimpArgs false

/-- The object of a reference. -/
def obAt (os : List Ob) (r : Int) : Option Ob := os.find? (fun o => decide ((o.h : Int) + 1 = r))
theorem obAt_some {os : List Ob} {r : Int} {o : Ob} (h : obAt os r = some o) : o ∈ os ∧ (o.h : Int) + 1 = r :=
  ⟨List.mem_of_find?_eq_some h, by have := List.find?_some h; simpa using this⟩
theorem obAt_none {os : List Ob} {r : Int} (h : obAt os r = none) : ∀ o, o ∈ os → (o.h : Int) + 1 ≠ r := by
  intro o ho e
  have := (List.find?_eq_none.1 h) o ho
  simp at this
  exact this e
theorem HeapAt.obAt {c : Cf} {zs : List Int} {pool : List Nat} {os : List Ob} (h : HeapAt c zs pool os) {o : Ob} (ho : o ∈ os) : obAt os ((o.h : Int) + 1) = some o := by
  cases hc : Pk.obAt os ((o.h : Int) + 1) with
  | none => exact absurd rfl (obAt_none hc o ho)
  | some o' =>
    obtain ⟨h1, h2⟩ := obAt_some hc
    have : o'.h = o.h := by omega
    rw [h.own h1 ho (b := o'.h) (by unfold Ob.blocks; simp) (by rw [this]; unfold Ob.blocks; simp)]
/-- A reference that is a number of Go's. -/
def In64 (r : Int) : Prop := -9223372036854775808 ≤ r ∧ r ≤ 9223372036854775807
instance (r : Int) : Decidable (In64 r) := by unfold In64; infer_instance
theorem ref64 {c : Cf} (hm : c.May) {h : Nat} (hh : h < c.N) : In64 ((h : Int) + 1) := by
  have := hm.n
  unfold In64; omega
theorem HeapAt.in64 {c : Cf} {zs : List Int} {pool : List Nat} {os : List Ob} (h : HeapAt c zs pool os) (hm : c.May) {o : Ob} (ho : o ∈ os) : In64 ((o.h : Int) + 1) :=
  ref64 hm (h.lt ho (b := o.h) (by unfold Ob.blocks; simp))
/-- What is wrong with a pointer field, a word. -/
def ptrE (c : Cf) (os : List Ob) (r i : Int) : Int := match obAt os r with | none => 8 | some o => if bel i o.np && (fieldA c o i.toNat).isSome then 0 else 7
def dataE (c : Cf) (os : List Ob) (r i : Int) : Int := match obAt os r with | none => 8 | some o => if bel i o.nd && (fieldA c o (o.np + i.toNat)).isSome then 0 else 7
def ptrV (c : Cf) (zs : List Int) (os : List Ob) (r i : Int) : Int := match obAt os r with | none => 0 | some o => if bel i o.np then fldV c zs o i.toNat else 0
def dataV (c : Cf) (zs : List Int) (os : List Ob) (r i : Int) : Int := match obAt os r with | none => 0 | some o => if bel i o.nd then fldV c zs o (o.np + i.toNat) else 0
def blkN (os : List Ob) (r : Int) : Int := match obAt os r with | none => 0 | some o => 1 + (o.lv.length : Int)
/-- What is seen of an object. -/
def ptrL (c : Cf) (zs : List Int) (o : Ob) : List Int := (List.range o.np).map (fun i => fldV c zs o i)
def dataL (c : Cf) (zs : List Int) (o : Ob) : List Int := (List.range o.nd).map (fun i => fldV c zs o (o.np + i))
theorem ptrL_length (c : Cf) (zs : List Int) (o : Ob) : (ptrL c zs o).length = o.np := by simp [ptrL]
theorem dataL_length (c : Cf) (zs : List Int) (o : Ob) : (dataL c zs o).length = o.nd := by simp [dataL]
def SeeQ (c : Cf) (zs : List Int) (o : Ob) (w : World) (e : Ending) (w' : World) : Prop :=
  ∃ a1 c1 a2 c2, e = .returned (.tuple #[.agg #[.slice a1 o.np c1, .slice a2 o.nd c2], .bool true]) ∧ OwnR w' .i64 a1 (ptrL c zs o) ∧ OwnR w' .u32 a2 (dataL c zs o) ∧ (∀ b off, a1 = some ⟨b, off, none⟩ → w.heap.size ≤ b) ∧ (∀ b off, a2 = some ⟨b, off, none⟩ → w.heap.size ≤ b) ∧
    (∀ b off b' off', a1 = some ⟨b, off, none⟩ → a2 = some ⟨b', off', none⟩ → b ≠ b') ∧ Below w.heap.size w w' ∧ (∀ b off, a1 = some ⟨b, off, none⟩ → b < w'.heap.size) ∧ ∀ b off, a2 = some ⟨b, off, none⟩ → b < w'.heap.size
/-- A new object. -/
def newOb (h np nd : Nat) (ls : List Nat) : Ob := ⟨h, np, nd, ls.map (· + 1)⟩
/-- What is left when an object was made of these blocks. -/
structure MadeOb (c : Cf) (zs zs' : List Int) (pool : List Nat) (os : List Ob) (o : Ob) : Prop where
  heap : HeapAt c zs' pool (os ++ [o])
  tag : nth zs' (adr c o.h 0) = if o.f ≤ c.W - 8 then 1 else 2
  own : ∀ v, 3 ≤ v → v < 8 → nth zs' (adr c o.h v) = 0
  fld : ∀ i, i < o.f → fldV c zs' o i = 0
  out : ∀ i, ¬ i < 3 → (∀ b, b ∈ o.blocks → ¬ inBlk c b i) → nth zs' i = nth zs i
def shedOb (o : Ob) (j : Nat) : Ob := { o with lv := o.lv.set j 0 }
def shedOs (os : List Ob) (o : Ob) (j : Nat) : List Ob := os.map (fun x => if x.h = o.h then shedOb x j else x)

/-- What package obj's functions return. -/
structure ObjFns : Prop where
  make_size : ∀ (c : Cf) (zs : List Int) (p d : Int), Wz c zs → sizeE c.W p d ≠ 0 → ∃ B, Acts c 10 [.int .i64 p, .int .i64 d] zs B zs (.tuple #[.int .i64 0, .int .i64 (sizeE c.W p d)])
  make_full : ∀ (c : Cf) (zs : List Int) (pool : List Nat) (os : List Ob) (p d : Int), Wz c zs → HeapAt c zs pool os → sizeE c.W p d = 0 → (pool.length : Int) < blocksV c.W p d → ∃ B, Acts c 10 [.int .i64 p, .int .i64 d] zs B zs (.tuple #[.int .i64 0, .int .i64 4])
  make_yes : ∀ (c : Cf) (zs : List Int) (h : Nat) (ls pool : List Nat) (os : List Ob) (p d : Nat), Wz c zs → HeapAt c zs (h :: ls ++ pool) os → sizeE c.W p d = 0 → (1 + ls.length : Int) = blocksV c.W p d →
    ∃ B zs', Acts c 10 [.int .i64 (p : Int), .int .i64 (d : Int)] zs B zs' (.tuple #[.int .i64 ((h : Int) + 1), .int .i64 0]) ∧ MadeOb c zs zs' pool os (newOb h p d ls)
  is_ : ∀ (c : Cf) (zs : List Int) (pool : List Nat) (os : List Ob) (r : Int), Wz c zs → HeapAt c zs pool os → In64 r → Acts c 40 [.int .i64 r] zs 12 zs (.bool (obAt os r).isSome)
  lens_yes : ∀ (c : Cf) (zs : List Int) (pool : List Nat) (os : List Ob) (r : Int) (o : Ob), Wz c zs → HeapAt c zs pool os → obAt os r = some o → Acts c 39 [.int .i64 r] zs 12 zs (.tuple #[.int .i64 (o.np : Int), .int .i64 (o.nd : Int), .int .i64 0])
  lens_no : ∀ (c : Cf) (zs : List Int) (pool : List Nat) (os : List Ob) (r : Int), Wz c zs → HeapAt c zs pool os → In64 r → obAt os r = none → Acts c 39 [.int .i64 r] zs 12 zs (.tuple #[.int .i64 0, .int .i64 0, .int .i64 8])
  ptr : ∀ (c : Cf) (zs : List Int) (pool : List Nat) (os : List Ob) (r i : Int), Wz c zs → HeapAt c zs pool os → In64 r → Acts c 37 [.int .i64 r, .int .i64 i] zs 12 zs (.tuple #[.int .i64 (ptrV c zs os r i), .int .i64 (ptrE c os r i)])
  data : ∀ (c : Cf) (zs : List Int) (pool : List Nat) (os : List Ob) (r i : Int), Wz c zs → HeapAt c zs pool os → In64 r → Acts c 38 [.int .i64 r, .int .i64 i] zs 12 zs (.tuple #[.int .u32 (dataV c zs os r i), .int .i64 (dataE c os r i)])
  setptr_yes : ∀ (c : Cf) (zs : List Int) (pool : List Nat) (os : List Ob) (o : Ob) (i a : Nat) (x : Int), Wz c zs → HeapAt c zs pool os → o ∈ os → i < o.np → fieldA c o i = some a → 0 ≤ x → x ≤ (c.N : Int) → Acts c 23 [.int .i64 ((o.h : Int) + 1), .int .i64 (i : Int), .int .i64 x] zs 12 (zs.set a x) (.int .i64 0)
  setptr_no : ∀ (c : Cf) (zs : List Int) (pool : List Nat) (os : List Ob) (r i x : Int), Wz c zs → HeapAt c zs pool os → In64 r → ptrE c os r i ≠ 0 → Acts c 23 [.int .i64 r, .int .i64 i, .int .i64 x] zs 12 zs (.int .i64 (ptrE c os r i))
  setptr_arg : ∀ (c : Cf) (zs : List Int) (pool : List Nat) (os : List Ob) (r i x : Int), Wz c zs → HeapAt c zs pool os → In64 r → ptrE c os r i = 0 → ¬ (0 ≤ x ∧ x ≤ (c.N : Int)) → Acts c 23 [.int .i64 r, .int .i64 i, .int .i64 x] zs 12 zs (.int .i64 2)
  setdata_yes : ∀ (c : Cf) (zs : List Int) (pool : List Nat) (os : List Ob) (o : Ob) (i a : Nat) (x : Int), Wz c zs → HeapAt c zs pool os → o ∈ os → i < o.nd → fieldA c o (o.np + i) = some a → 0 ≤ x → x ≤ 4294967295 → Acts c 24 [.int .i64 ((o.h : Int) + 1), .int .i64 (i : Int), .int .u32 x] zs 12 (zs.set a x) (.int .i64 0)
  setdata_no : ∀ (c : Cf) (zs : List Int) (pool : List Nat) (os : List Ob) (r i x : Int), Wz c zs → HeapAt c zs pool os → In64 r → dataE c os r i ≠ 0 → Acts c 24 [.int .i64 r, .int .i64 i, .int .u32 x] zs 12 zs (.int .i64 (dataE c os r i))
  blocks : ∀ (c : Cf) (zs : List Int) (pool : List Nat) (os : List Ob) (r : Int), Wz c zs → HeapAt c zs pool os → In64 r → Acts c 22 [.int .i64 r] zs 12 zs (.int .i64 (blkN os r))
  shed_yes : ∀ (c : Cf) (zs : List Int) (pool : List Nat) (os : List Ob) (o : Ob) (j b : Nat), Wz c zs → HeapAt c zs pool os → o ∈ os → o.lv[j]? = some (b + 1) →
    ∃ B zs', Acts c 41 [.int .i64 ((o.h : Int) + 1), .int .i64 (j : Int)] zs B zs' (.bool true) ∧ HeapAt c zs' (b :: pool) (shedOs os o j) ∧ ∀ i, ¬ i < 3 → i ≠ adr c o.h (8 + j) → i ≠ adr c b 0 → i ≠ adr c b 5 → nth zs' i = nth zs i
  shed_no : ∀ (c : Cf) (zs : List Int) (pool : List Nat) (os : List Ob) (r j : Int), Wz c zs → HeapAt c zs pool os → In64 r → (∀ o, obAt os r = some o → ∀ k b : Nat, j = (k : Int) → o.lv[k]? ≠ some (b + 1)) → ∃ B, Acts c 41 [.int .i64 r, .int .i64 j] zs B zs (.bool false)
  end_yes : ∀ (c : Cf) (zs : List Int) (pool : List Nat) (os : List Ob) (o : Ob), Wz c zs → HeapAt c zs pool os → o ∈ os → o.leaves = [] →
    ∃ B zs', Acts c 42 [.int .i64 ((o.h : Int) + 1)] zs B zs' (.bool true) ∧ HeapAt c zs' (o.h :: pool) (os.filter (fun x => x.h != o.h)) ∧ ∀ i, ¬ i < 3 → i ≠ adr c o.h 0 → i ≠ adr c o.h 5 → nth zs' i = nth zs i
  end_no : ∀ (c : Cf) (zs : List Int) (pool : List Nat) (os : List Ob) (r : Int), Wz c zs → HeapAt c zs pool os → In64 r → obAt os r = none → ∃ B, Acts c 42 [.int .i64 r] zs B zs (.bool false)
  see_yes : ∀ (c : Cf) (zs : List Int) (pool : List Nat) (os : List Ob) (o : Ob), Wz c zs → HeapAt c zs pool os → o ∈ os → Looks c 12 [.int .i64 ((o.h : Int) + 1)] zs (SeeQ c zs o)
  see_no : ∀ (c : Cf) (zs : List Int) (pool : List Nat) (os : List Ob) (r : Int), Wz c zs → HeapAt c zs pool os → In64 r → obAt os r = none → Looks c 12 [.int .i64 r] zs (fun w e w' => e = .returned (.tuple #[.agg #[.slice none 0 0, .slice none 0 0], .bool false]) ∧ Below w.heap.size w w')

end Go.Proofs.Ytgmbamehmecnlaa.Pk
