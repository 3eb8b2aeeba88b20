/-
  What the functions of package chain must return for the laws (a bundle; ChainOk proves it of the landed code).
-/
import Derived.Test.YtljdbaddockfcaaGreatChains
namespace Go.Proofs.YtljdbaddockfcaaGreat.Pk
open Go.RowKit
set_option linter.unusedVariables false

/-- The end of a call that changes a ground's words: at most 16 accesses. -/
def ChPost (w : World) (p : Pl) (c : Cf) (s : St) (zs : List Int) (v : Value) (e : Ending) (w' : World) : Prop :=
  ∃ m, e = .returned v ∧ G w' p c ⟨zs, m⟩ ∧ s.m ≤ m ∧ m ≤ s.m + 16 ∧ Touch (inG p) w w'
/-- No chain, or no block. -/
def NoPut (c : Cf) (k b : Int) : Prop := ¬ (k = 0 ∨ k = 1) ∨ ¬ (0 ≤ b ∧ b < (c.N : Int))
/-- No chain, or an empty one. -/
def NoTake (c : Cf) (zs : List Int) (k : Int) : Prop := ¬ (k = 0 ∨ k = 1) ∨ ∃ j : Nat, k = (j : Int) ∧ j < 2 ∧ ChainAt c zs j []

/-- A new row of blocks' numbers. -/
def NewInts (w : World) (l : List Nat) (e : Ending) (w' : World) : Prop :=
  ∃ a cap, e = .returned (.slice a l.length cap) ∧ Row w' .i64 a (ints l) ∧ (∀ b off, a = some ⟨b, off, none⟩ → w.heap.size ≤ b) ∧ Below w.heap.size w w'
theorem NewRow.ints {w w' : World} {l : List Nat} {zs : List Int} {e : Ending} (h : NewRow w zs e w') (hz : zs = Pk.ints l) : NewInts w l e w' := by
  subst hz
  obtain ⟨a, cap, h1, h2, h3, h4⟩ := h
  rw [ints_length] at h1
  exact ⟨a, cap, h1, h2, h3, h4⟩

/-- What package chain's functions return. -/
structure ChainFns : Prop where
  push_yes : ∀ (p : Pl) (c : Cf) (s : St) (k b : Nat) (l : List Nat) (w : World) (hG : G w p c s) (hC : ChainAt c s.zs k l) (hk : k < 2) (hb : b < c.N) (hn : b ∉ l),
    Calls Tryz.prog 198 #[.pointer (some ⟨p.a, 0, none⟩), .int .i64 (k : Int), .int .i64 (b : Int)] w (ChPost w p c s (pushZ c k b s.zs) (.bool true))
  add_yes : ∀ (p : Pl) (c : Cf) (s : St) (k b : Nat) (l : List Nat) (w : World) (hG : G w p c s) (hC : ChainAt c s.zs k l) (hk : k < 2) (hb : b < c.N) (hn : b ∉ l),
    Calls Tryz.prog 115 #[.pointer (some ⟨p.a, 0, none⟩), .int .i64 (k : Int), .int .i64 (b : Int)] w (ChPost w p c s (addZ c k b s.zs) (.bool true))
  push_no : ∀ (p : Pl) (c : Cf) (s : St) (k b : Int) (w : World) (hG : G w p c s) (h : NoPut c k b),
    Calls Tryz.prog 198 #[.pointer (some ⟨p.a, 0, none⟩), .int .i64 k, .int .i64 b] w (ChPost w p c s s.zs (.bool false))
  add_no : ∀ (p : Pl) (c : Cf) (s : St) (k b : Int) (w : World) (hG : G w p c s) (h : NoPut c k b),
    Calls Tryz.prog 115 #[.pointer (some ⟨p.a, 0, none⟩), .int .i64 k, .int .i64 b] w (ChPost w p c s s.zs (.bool false))
  take_yes : ∀ (p : Pl) (c : Cf) (s : St) (k b : Nat) (l : List Nat) (w : World) (hG : G w p c s) (hC : ChainAt c s.zs k (b :: l)) (hk : k < 2),
    Calls Tryz.prog 120 #[.pointer (some ⟨p.a, 0, none⟩), .int .i64 (k : Int)] w (ChPost w p c s (takeZ c k b s.zs) (.tuple #[.int .i64 (b : Int), .bool true]))
  take_no : ∀ (p : Pl) (c : Cf) (s : St) (k : Int) (w : World) (hG : G w p c s) (h : NoTake c s.zs k),
    Calls Tryz.prog 120 #[.pointer (some ⟨p.a, 0, none⟩), .int .i64 k] w (ChPost w p c s s.zs (.tuple #[.int .i64 0, .bool false]))
  first_yes : ∀ (p : Pl) (c : Cf) (s : St) (k b : Nat) (l : List Nat) (w : World) (hG : G w p c s) (hC : ChainAt c s.zs k (b :: l)) (hk : k < 2),
    Calls Tryz.prog 116 #[.pointer (some ⟨p.a, 0, none⟩), .int .i64 (k : Int)] w (ChPost w p c s s.zs (.tuple #[.int .i64 (b : Int), .bool true]))
  first_no : ∀ (p : Pl) (c : Cf) (s : St) (k : Int) (w : World) (hG : G w p c s) (h : NoTake c s.zs k),
    Calls Tryz.prog 116 #[.pointer (some ⟨p.a, 0, none⟩), .int .i64 k] w (ChPost w p c s s.zs (.tuple #[.int .i64 0, .bool false]))
  len_yes : ∀ (p : Pl) (c : Cf) (s : St) (k : Nat) (l : List Nat) (w : World) (hG : G w p c s) (hC : ChainAt c s.zs k l) (hk : k < 2),
    Calls Tryz.prog 67 #[.pointer (some ⟨p.a, 0, none⟩), .int .i64 (k : Int)] w (ChPost w p c s s.zs (.int .i64 (l.length : Int)))
  len_no : ∀ (p : Pl) (c : Cf) (s : St) (k : Int) (w : World) (hG : G w p c s) (h : ¬ (k = 0 ∨ k = 1)),
    Calls Tryz.prog 67 #[.pointer (some ⟨p.a, 0, none⟩), .int .i64 k] w (ChPost w p c s s.zs (.int .i64 0))
  list_yes : ∀ (p : Pl) (c : Cf) (s : St) (k : Nat) (l : List Nat) (w : World) (hG : G w p c s) (hC : ChainAt c s.zs k l) (hk : k < 2),
    Calls Tryz.prog 68 #[.pointer (some ⟨p.a, 0, none⟩), .int .i64 (k : Int)] w (NewInts w l)
  list_no : ∀ (p : Pl) (c : Cf) (s : St) (k : Int) (w : World) (hG : G w p c s) (h : ¬ (k = 0 ∨ k = 1)),
    Calls Tryz.prog 68 #[.pointer (some ⟨p.a, 0, none⟩), .int .i64 k] w (NewInts w [])

/-- Accesses between two looks at the meter. -/
theorem u64m_diff {m m' : Nat} (h0 : m ≤ m') (h1 : m' ≤ m + 100) : IntKind.u64.wrap (u64m m' - u64m m) = ((m' - m : Nat) : Int) := by
  rw [IntKind.wrap_u64]; unfold u64m; omega

end Go.Proofs.YtljdbaddockfcaaGreat.Pk
