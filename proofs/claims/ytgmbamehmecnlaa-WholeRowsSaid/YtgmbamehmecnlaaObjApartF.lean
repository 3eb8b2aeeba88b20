/-
  Layer 11: the law of fields apart, of packages pool and obj that do what they must.
-/
import Derived.Test.YtgmbamehmecnlaaObjLaw
import Derived.Test.YtgmbamehmecnlaaBase
namespace Go.Proofs.Ytgmbamehmecnlaa.Pk
open Go.RowKit
set_option linter.unusedVariables false
set_option linter.unusedSimpArgs false

/-- Make, whatever comes of it. -/
def MakeEnd (w : World) (p : Pl) (c : Cf) (zs : List Int) (pool : List Nat) (os : List Ob) (x y : Int) (e : Ending) (w' : World) : Prop :=
  (∃ E : Int, e = .returned (.tuple #[.int .i64 0, .int .i64 E]) ∧ E ≠ 0 ∧ HSt w p c zs pool os w') ∨
  ∃ (h : Nat) (ls pool' : List Nat) (zs' : List Int) (np nd : Nat), x = (np : Int) ∧ y = (nd : Int) ∧ pool = h :: ls ++ pool' ∧ e = .returned (.tuple #[.int .i64 ((h : Int) + 1), .int .i64 0]) ∧ HSt w p c zs' pool' (os ++ [newOb h np nd ls]) w' ∧ MadeOb c zs zs' pool' os (newOb h np nd ls) ∧ (1 + ls.length : Int) = blocksV c.W np nd
theorem make_any (O : ObjFns) {w wr : World} {p : Pl} {c : Cf} {zs : List Int} {pool : List Nat} {os : List Ob} (h : HSt w p c zs pool os wr) (x y : Int) :
    Calls Try.prog 10 #[.pointer (some ⟨p.a, 0, none⟩), .int .i64 x, .int .i64 y] wr fun e w' => MakeEnd w p c zs pool os x y e w' ∧ Touch (inG p) wr w' := by
  by_cases hs : sizeE c.W x y = 0
  · obtain ⟨w0, w1, x0, y0, hf⟩ := sizeE_ok hs
    obtain ⟨np, rfl⟩ := Int.eq_ofNat_of_zero_le x0
    obtain ⟨nd, rfl⟩ := Int.eq_ofNat_of_zero_le y0
    by_cases hl : (pool.length : Int) < blocksV c.W (np : Int) (nd : Int)
    · obtain ⟨B, hA⟩ := O.make_full c zs pool os _ _ h.wz h.heap hs hl
      refine (h.act hA h.heap).mono ?_
      rintro e w' ⟨rfl, h', hT⟩
      exact ⟨Or.inl ⟨4, rfl, by decide, h'⟩, hT⟩
    · have hb : blocksV c.W (np : Int) (nd : Int) = 1 + leavesI c.W ((np : Int) + nd) := by unfold blocksV; rw [if_pos hs]
      have hbd := leaves_bd (W := c.W) (n := (np : Int) + nd) w0 w1 hf
      obtain ⟨k, hk⟩ := Int.eq_ofNat_of_zero_le hbd.1
      rw [hb, hk] at hl
      match pool, hl, h with
      | [], hl, _ => simp at hl; omega
      | a :: t, hl, h =>
        have hkt : k ≤ t.length := by simp at hl; omega
        have e1 : a :: t = a :: t.take k ++ t.drop k := by simp
        have h2 : HSt w p c zs (a :: t.take k ++ t.drop k) os wr := e1 ▸ h
        have hlen : (1 + (t.take k).length : Int) = blocksV c.W (np : Int) (nd : Int) := by rw [hb, hk]; simp [Nat.min_eq_left hkt]
        obtain ⟨B, zs', hA, hM⟩ := O.make_yes c zs a (t.take k) (t.drop k) os np nd h2.wz h2.heap hs hlen
        refine (h2.act hA hM.heap).mono ?_
        rintro e w' ⟨rfl, h', hT⟩
        exact ⟨Or.inr ⟨a, t.take k, t.drop k, zs', np, nd, rfl, rfl, e1, rfl, h', hM, hlen⟩, hT⟩
  · obtain ⟨B, hA⟩ := O.make_size c zs x y h.wz hs
    refine (h.act hA h.heap).mono ?_
    rintro e w' ⟨rfl, h', hT⟩
    exact ⟨Or.inl ⟨_, rfl, hs, h'⟩, hT⟩

/-- An object that was seen: its box, and both rows, in blocks from lo on, below hi. -/
structure Seen (w : World) (q lo hi : Nat) (P D : List Int) (n1 n2 : Nat) (a1 : Option Addr) (c1 : Nat) (a2 : Option Addr) (c2 : Nat) : Prop where
  box : Blk w q #[.slice a1 n1 c1, .slice a2 n2 c2] 37
  r1 : OwnR w .i64 a1 P
  r2 : OwnR w .u32 a2 D
  l1 : P.length = n1
  l2 : D.length = n2
  hq : lo ≤ q ∧ q < hi
  h1 : ∀ b off, a1 = some ⟨b, off, none⟩ → lo ≤ b ∧ b < hi ∧ b ≠ q
  h2 : ∀ b off, a2 = some ⟨b, off, none⟩ → lo ≤ b ∧ b < hi ∧ b ≠ q
  h12 : ∀ b off b' off', a1 = some ⟨b, off, none⟩ → a2 = some ⟨b', off', none⟩ → b ≠ b'
theorem Seen.touch {X : Nat → Prop} {w w' : World} {q lo hi : Nat} {P D : List Int} {n1 n2 : Nat} {a1 : Option Addr} {c1 : Nat} {a2 : Option Addr} {c2 : Nat} (h : Seen w q lo hi P D n1 n2 a1 c1 a2 c2) (t : Touch X w w') (hx : ∀ i, lo ≤ i → i < hi → ¬ X i) : Seen w' q lo hi P D n1 n2 a1 c1 a2 c2 :=
  ⟨h.box.touch t (hx q h.hq.1 h.hq.2), h.r1.touch t (fun _ b off e => hx b (h.h1 b off e).1 (h.h1 b off e).2.1), h.r2.touch t (fun _ b off e => hx b (h.h2 b off e).1 (h.h2 b off e).2.1), h.l1, h.l2, h.hq, h.h1, h.h2, h.h12⟩
theorem Seen.later {w w' : World} {q lo hi : Nat} {P D : List Int} {n1 n2 : Nat} {a1 : Option Addr} {c1 : Nat} {a2 : Option Addr} {c2 : Nat} (h : Seen w q lo hi P D n1 n2 a1 c1 a2 c2) (hb : Below w.heap.size w w') : Seen w' q lo hi P D n1 n2 a1 c1 a2 c2 :=
  ⟨h.box.later hb, h.r1.later hb, h.r2.later hb, h.l1, h.l2, h.hq, h.h1, h.h2, h.h12⟩
theorem Seen.drw {w w' : World} {q lo hi : Nat} {P D : List Int} {n1 n2 : Nat} {a1 : Option Addr} {c1 : Nat} {a2 : Option Addr} {c2 : Nat} (h : Seen w q lo hi P D n1 n2 a1 c1 a2 c2) (hb : Drw w w') : Seen w' q lo hi P D n1 n2 a1 c1 a2 c2 := h.later hb.new
theorem dataE_ok {c : Cf} {os : List Ob} {r i : Int} {o : Ob} (ho : obAt os r = some o) (h : dataE c os r i = 0) : ∃ k : Nat, i = (k : Int) ∧ k < o.nd ∧ ∃ a, fieldA c o (o.np + k) = some a := by
  unfold dataE at h
  rw [ho] at h
  by_cases hb : (bel i o.nd && (fieldA c o (o.np + i.toNat)).isSome) = true
  · rw [Bool.and_eq_true] at hb
    obtain ⟨k, rfl, hk⟩ := bel_nat hb.1
    exact ⟨k, rfl, hk, Option.isSome_iff_exists.1 (by simpa using hb.2)⟩
  · simp [hb] at h
theorem ptrE_ok {c : Cf} {os : List Ob} {r i : Int} {o : Ob} (ho : obAt os r = some o) (h : ptrE c os r i = 0) : ∃ k : Nat, i = (k : Int) ∧ k < o.np ∧ ∃ a, fieldA c o k = some a := by
  unfold ptrE at h
  rw [ho] at h
  by_cases hb : (bel i o.np && (fieldA c o i.toNat).isSome) = true
  · rw [Bool.and_eq_true] at hb
    obtain ⟨k, rfl, hk⟩ := bel_nat hb.1
    exact ⟨k, rfl, hk, Option.isSome_iff_exists.1 (by simpa using hb.2)⟩
  · simp [hb] at h
theorem ints_n {zs : List Int} (a b : Option Addr) (n ca cb : Nat) (w : World) (hn : zs.length = n) (h1 : Row w .i64 a zs) (h2 : Row w .i64 b zs) (hl : n ≤ 10000) :
    Calls Try.prog 16 #[.slice a n ca, .slice b n cb] w fun e w' => e = .returned (.bool true) ∧ Drw w w' := by
  subst hn
  exact rcInts_same a b ca cb zs w h1 h2 hl

end Go.Proofs.Ytgmbamehmecnlaa.Pk
