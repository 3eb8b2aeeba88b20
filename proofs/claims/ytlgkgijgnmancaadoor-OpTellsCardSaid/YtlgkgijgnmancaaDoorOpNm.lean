/-
  Package op: kinds and their names; the document's names.
-/
import Derived.Test.YtlgkgijgnmancaaDoorNames
import Derived.Test.YtlgkgijgnmancaaDoorTame
import Derived.LoopTactic
import Derived.IntWalk
import Derived.OwnWalk
namespace Go.Proofs.YtlgkgijgnmancaaDoor.Pk
open Go.RowKit
set_option linter.unusedVariables false
set_option linter.unusedSimpArgs false

/-- The name of a kind of operations. -/
def opName (k : Int) : ByteArray := if 1 ≤ k ∧ k ≤ 10 then opS (k - 1).toNat else ⟨#[]⟩
/-- Is that the name with this place in the table? -/
def opNm (i : Nat) (s : ByteArray) : Bool := (opS i).toList == s.toList
/-- The first place below k. -/
def opLast (s : ByteArray) : Nat → Option Nat
  | 0 => none
  | k + 1 => if opNm k s = true then some k else opLast s k
def opKI (s : ByteArray) (k : Nat) : Int := match opLast s k with | some i => (i : Int) + 1 | none => 0
def opKB (s : ByteArray) (k : Nat) : Bool := (opLast s k).isSome
theorem opNm_one {i j : Nat} {s : ByteArray} (hi : i < 10) (hj : j < 10) (h : opNm i s = true) (h2 : opNm j s = true) : i = j := by
  unfold opNm at h h2
  rw [beq_iff_eq, ByteArray.toList_eq] at h h2
  have e : (opS i).data.toList = (opS j).data.toList := h.trans h2.symm
  have : opL.getD i [] = opL.getD j [] := by unfold opS at e; simpa using e
  revert this
  revert hi hj
  have H : ∀ i : Fin 10, ∀ j : Fin 10, opL.getD i.val [] = opL.getD j.val [] → i = j := by decide
  intro hi hj h
  exact congrArg Fin.val (H ⟨i, hi⟩ ⟨j, hj⟩ h)
theorem opLast_of {s : ByteArray} {i : Nat} (h : opNm i s = true) (hi : i < 10) : ∀ k, k ≤ 10 → opLast s k = if i < k then some i else none
  | 0, _ => by simp [opLast]
  | k + 1, hk => by
    unfold opLast
    by_cases e : opNm k s = true
    · have := opNm_one hi (by omega) h e
      subst this
      rw [if_pos e, if_pos (by omega)]
    · rw [if_neg e, opLast_of h hi k (by omega)]
      have : i ≠ k := fun x => e (x ▸ h)
      by_cases hik : i < k
      · rw [if_pos hik, if_pos (by omega)]
      · rw [if_neg hik, if_neg (by omega)]
theorem opLast_no {s : ByteArray} : ∀ k, (∀ i, i < k → opNm i s = false) → opLast s k = none
  | 0, _ => rfl
  | k + 1, h => by
    unfold opLast
    rw [if_neg (by rw [h k (by omega)]; decide), opLast_no k (fun i hi => h i (by omega))]
theorem opKI_succ (s : ByteArray) (k : Nat) : opKI s (k + 1) = if opNm k s = true then (k : Int) + 1 else opKI s k := by
  unfold opKI
  rw [opLast]
  by_cases e : opNm k s = true
  · rw [if_pos e, if_pos e]
  · rw [if_neg e, if_neg e]
theorem opKB_succ (s : ByteArray) (k : Nat) : opKB s (k + 1) = if opNm k s = true then true else opKB s k := by
  unfold opKB
  rw [opLast]
  by_cases e : opNm k s = true
  · rw [if_pos e, if_pos e]; rfl
  · rw [if_neg e, if_neg e]
theorem oIsKind_any (k : Int) (w : World) : Calls Tryd.prog 41 #[.int .i64 k] w fun e w' => e = .returned (.bool (decide (1 ≤ k ∧ k ≤ 10))) ∧ w = w' := by
  by_cases h1 : 1 ≤ k
  · by_cases h2 : k ≤ 10
    · rw [decide_eq_true ⟨h1, h2⟩]
      go_enter Tryd.func41, Tryd.ntmps41
      go_wp2_with fail
      go_ret
      exact ⟨rfl, rfl⟩
    · rw [decide_eq_false (fun h => h2 h.2)]
      go_enter Tryd.func41, Tryd.ntmps41
      go_wp2_with fail
      go_ret
      exact ⟨rfl, rfl⟩
  · rw [decide_eq_false (fun h => h1 h.1)]
    go_enter Tryd.func41, Tryd.ntmps41
    go_wp2_with fail
    go_ret
    exact ⟨rfl, rfl⟩
theorem oName_no (k : Int) (w : World) (hk : ¬ (1 ≤ k ∧ k ≤ 10)) : Calls Tryd.prog 12 #[.int .i64 k] w fun e w' => e = .returned (.string ⟨#[]⟩) ∧ w = w' := by
  have hf := decide_eq_false hk
  go_enter Tryd.func12, Tryd.ntmps12
  go_wp2_with fail
  refine (oIsKind_any _ _).mono ?_
  rw [hf]
  rintro e w1 ⟨rfl, rfl⟩
  go_wp2_with fail
  go_ret
  exact ⟨rfl, rfl⟩
theorem oName_yes (k : Nat) (w : World) (hk : k < 10) (hN : NamesAt w) : Calls Tryd.prog 12 #[.int .i64 ((k : Int) + 1)] w fun e w' => e = .returned (.string (opS k)) ∧ w = w' := by
  have hf : decide (1 ≤ (k : Int) + 1 ∧ (k : Int) + 1 ≤ 10) = true := decide_eq_true (by omega)
  have hc := hN.at_ k hk
  have hw : IntKind.i64.wrap ((k : Int) + 1 - 1) = (k : Int) := by rw [IntWalk.i64_in _ (by omega)]; omega
  go_enter Tryd.func12, Tryd.ntmps12
  go_wp2_with fail
  refine (oIsKind_any _ _).mono ?_
  rw [hf]
  rintro e w1 ⟨rfl, rfl⟩
  go_wp2_with fail
  go_ret
  exact ⟨rfl, rfl⟩
theorem oName_any (k : Int) (w : World) (hN : NamesAt w) : Calls Tryd.prog 12 #[.int .i64 k] w fun e w' => e = .returned (.string (opName k)) ∧ w = w' := by
  unfold opName
  by_cases h : 1 ≤ k ∧ k ≤ 10
  · rw [if_pos h]
    have := oName_yes (k - 1).toNat w (by omega) hN
    rw [show (((k - 1).toNat : Nat) : Int) + 1 = k by omega] at this
    exact this
  · rw [if_neg h]
    exact oName_no k w h
/-! ### The document's -/
theorem refOpNames_any (w : World) : Calls Tryd.prog 39 #[] w fun e w' => e = .returned (.slice (some ⟨w.heap.size, 0, none⟩) 10 10) ∧ w' = w.alloc (.cells #[.string (opS 0), .string (opS 1), .string (opS 2), .string (opS 3), .string (opS 4), .string (opS 5), .string (opS 6), .string (opS 7), .string (opS 8), .string (opS 9)] 9) := by
  go_enter Tryd.func39, Tryd.ntmps39
  go_wp2_with fail
  go_ret
  exact ⟨rfl, rfl⟩
theorem refOpName_no (k : Int) (w : World) (hk : ¬ (1 ≤ k ∧ k ≤ 10)) : Calls Tryd.prog 10 #[.int .i64 k] w fun e w' => e = .returned (.string ⟨#[]⟩) ∧ Below w.heap.size w w' := by
  by_cases h1 : k < 1
  · go_enter Tryd.func10, Tryd.ntmps10
    go_wp2_with fail
    go_ret
    exact ⟨rfl, Below.refl _ _⟩
  · have h2 : 10 < k := by omega
    go_enter Tryd.func10, Tryd.ntmps10
    go_wp2_with fail
    go_ret
    exact ⟨rfl, Below.refl _ _⟩
theorem refOpName_yes (k : Nat) (w : World) (hk : k < 10) : Calls Tryd.prog 10 #[.int .i64 ((k : Int) + 1)] w fun e w' => e = .returned (.string (opS k)) ∧ Below w.heap.size w w' := by
  have h1 : ¬ (k : Int) + 1 < 1 := by omega
  have h2 : ¬ 10 < (k : Int) + 1 := by omega
  have hw : IntKind.i64.wrap ((k : Int) + 1 - 1) = (k : Int) := by rw [IntWalk.i64_in _ (by omega)]; omega
  go_enter Tryd.func10, Tryd.ntmps10
  go_wp2_with fail
  refine (refOpNames_any _).mono ?_
  rintro e w1 ⟨rfl, rfl⟩
  have hc : (w.alloc (.cells #[.string (opS 0), .string (opS 1), .string (opS 2), .string (opS 3), .string (opS 4), .string (opS 5), .string (opS 6), .string (opS 7), .string (opS 8), .string (opS 9)] 9)).cell? ⟨w.heap.size, 0 + k, none⟩ = some (.string (opS k)) := by
    rw [World.cell?_alloc_at _ _ _ _ rfl]
    have : k = 0 ∨ k = 1 ∨ k = 2 ∨ k = 3 ∨ k = 4 ∨ k = 5 ∨ k = 6 ∨ k = 7 ∨ k = 8 ∨ k = 9 := by omega
    rcases this with rfl | rfl | rfl | rfl | rfl | rfl | rfl | rfl | rfl | rfl <;> rfl
  have HB : Hid (Below w.heap.size w (w.alloc (.cells #[.string (opS 0), .string (opS 1), .string (opS 2), .string (opS 3), .string (opS 4), .string (opS 5), .string (opS 6), .string (opS 7), .string (opS 8), .string (opS 9)] 9))) := Lib.hid ((Below.refl _ _).alloc (Nat.le_refl _) _)
  generalize w.alloc (.cells #[.string (opS 0), .string (opS 1), .string (opS 2), .string (opS 3), .string (opS 4), .string (opS 5), .string (opS 6), .string (opS 7), .string (opS 8), .string (opS 9)] 9) = w1 at hc HB
  have hc' := hc
  rw [Nat.zero_add] at hc'
  have hk' : k < 10 := hk
  go_wp2_with fail
  go_ret
  exact ⟨rfl, HB.out⟩
theorem refOpName_any (k : Int) (w : World) : Calls Tryd.prog 10 #[.int .i64 k] w fun e w' => e = .returned (.string (opName k)) ∧ Below w.heap.size w w' := by
  unfold opName
  by_cases h : 1 ≤ k ∧ k ≤ 10
  · rw [if_pos h]
    have := refOpName_yes (k - 1).toNat w (by omega)
    rw [show (((k - 1).toNat : Nat) : Int) + 1 = k by omega] at this
    exact this
  · rw [if_neg h]
    exact refOpName_no k w h
end Go.Proofs.YtlgkgijgnmancaaDoor.Pk
