/-
  The document's chains: Of, Set, Stands; the law's own stands.
-/
import Derived.Test.YtljdbaddockfcaaGreatRefChain
import Derived.Test.YtljdbaddockfcaaGreatChainMath
import Derived.Test.YtljdbaddockfcaaGreatGroFn
import Derived.BigQuiet
namespace Go.Proofs.YtljdbaddockfcaaGreat.Pk
open Go.RowKit
set_option linter.unusedVariables false
set_option linter.unusedSimpArgs false

theorem Drw.trans {a b c : World} (h : Drw a b) (k : Drw b c) : Drw a c := by
  obtain ⟨m, rfl⟩ := h; obtain ⟨m', rfl⟩ := k; exact ⟨m + m', World.drewN_drewN _ _ _⟩
/-- Blocks' numbers as numbers. -/
def ints (l : List Nat) : List Int := l.map (fun n : Nat => (n : Int))
theorem ints_length (l : List Nat) : (ints l).length = l.length := by simp [ints]
theorem ints_nth {l : List Nat} {i : Nat} (h : i < l.length) : nth (ints l) i = (l[i] : Int) := by unfold nth ints; simp [List.getD, h]
theorem ints_out {l : List Nat} {i : Nat} (h : l.length ≤ i) : nth (ints l) i = 0 := nth_out (by rw [ints_length]; exact h)
theorem ints_few {l : List Nat} {N : Nat} (h : ∀ b, b ∈ l → b < N) (hN : N ≤ 1048576) : Few (ints l) := by
  intro k
  by_cases hk : k < l.length
  · rw [ints_nth hk]
    have := h _ (List.getElem_mem hk)
    omega
  · rw [ints_out (by omega)]; decide
theorem ints_end (l : List Nat) : endA (ints l) = fstI l ∧ endB (ints l) = lstI l := by
  unfold endA endB
  rw [ints_length]
  by_cases h : l.length = 0
  · rw [if_pos h, if_pos h]
    have : l = [] := List.length_eq_zero_iff.1 h
    subst this; exact ⟨rfl, rfl⟩
  · rw [if_neg h, if_neg h]
    constructor
    · cases l with
      | nil => exact absurd rfl h
      | cons a t => rfl
    · rcases List.eq_nil_or_concat l with rfl | ⟨t, x, rfl⟩
      · exact absurd rfl h
      · rw [List.concat_eq_append, lstI_snoc, ints_nth (by simp)]; simp
theorem ints_next {c : Cf} {zs : List Int} : ∀ {l : List Nat}, Links c zs l → ∀ i, (h : i < l.length) → nth zs (lnk c l[i]) = nextI (ints l) i
  | [], _, i, h => absurd h (by simp)
  | b :: t, hl, 0, _ => by
    show nth zs (lnk c b) = _
    rw [hl.1]
    unfold nextI
    rw [ints_length]
    cases t with
    | nil => rfl
    | cons a t' => rw [if_pos (by simp)]; rfl
  | b :: t, hl, i + 1, h => by
    have hi : i < t.length := by simpa using h
    have := ints_next hl.2 i hi
    show nth zs (lnk c t[i]) = _
    rw [this]
    unfold nextI
    rw [ints_length, ints_length]
    by_cases h2 : i + 1 < t.length
    · rw [if_pos h2, if_pos (by simpa using h2)]; rfl
    · rw [if_neg h2, if_neg (by simpa using h2)]
theorem ints_has {l : List Nat} {b : Nat} : hasB (ints l) (b : Int) = decide (b ∈ l) := by
  unfold hasB ints
  rw [List.any_map]
  by_cases h : b ∈ l
  · rw [decide_eq_true h, List.any_eq_true]; exact ⟨b, h, by simp⟩
  · rw [decide_eq_false h, List.any_eq_false]
    intro x hx
    simp
    intro e
    exact h (by have : x = b := by omega
                rw [← this]; exact hx)

/-- The chain k of the two. -/
def ofK (k : Nat) (la lb : List Nat) : List Nat := if k = 0 then la else lb

/-! ### The law's own look at registers and links -/
theorem seeR (p : Pl) (c : Cf) (s : St) (r : Nat) (x y : Int) (w : World) (hG : G w p c s) (hr : r < 24) (hx : x = (r : Int)) (hy : nth s.zs r = y) :
    Calls Tryz.prog 69 #[.pointer (some ⟨p.a, 0, none⟩), .int .i64 x] w fun e w' => e = .returned (.int .i64 y) ∧ Drw w w' := by
  subst hx hy
  have h := seereg_any p c s (r : Int) w hG
  rw [reg_at hr] at h
  exact h.mono fun e w' h => ⟨h.1, h.2 ▸ Drw.refl _⟩
theorem seeL (p : Pl) (c : Cf) (s : St) (b : Nat) (y : Int) (w : World) (hG : G w p c s) (hb : b < c.N) (hy : nth s.zs (lnk c b) = y) :
    Calls Tryz.prog 125 #[.pointer (some ⟨p.a, 0, none⟩), .int .i64 (b : Int), .int .i64 5] w fun e w' => e = .returned (.int .u32 y) ∧ Drw w w' := by
  subst hy
  have h := seeword_any p c s (b : Int) 5 w hG
  rw [lnk_word hG.may hb] at h
  exact h

end Go.Proofs.YtljdbaddockfcaaGreat.Pk
