/-
  Plain facts on tags: when they are right, their words, and what words say. No program in sight.
-/
import Derived.Test.YtljdbaddockfcaaGreatPackFn
namespace Go.Proofs.YtljdbaddockfcaaGreat.Pk
open Go.RowKit
set_option linter.unusedVariables false
set_option linter.unusedSimpArgs false

/-- Is n from 0 on and below b? -/
def inB (n b : Int) : Bool := decide (0 ≤ n ∧ n < b)
theorem inB_yes {n b : Int} (h : inB n b = true) : 0 ≤ n ∧ n < b := of_decide_eq_true h
theorem inB_no {n b : Int} (h : inB n b = false) : ¬ (0 ≤ n ∧ n < b) := of_decide_eq_false h
theorem inB_mk {n b : Int} (h : 0 ≤ n ∧ n < b) : inB n b = true := decide_eq_true h
theorem inB_mk' {n b : Int} (h : ¬ (0 ≤ n ∧ n < b)) : inB n b = false := decide_eq_false h
/-- Are all five of them 0 or 1? -/
def bitsB (c n s d g : Int) : Bool := inB c 2 && inB n 2 && inB s 2 && inB d 2 && inB g 2
/-- Is none of the five set? -/
def noneB (c n s d g : Int) : Bool := decide (c = 0 ∧ n = 0 ∧ s = 0 ∧ d = 0 ∧ g = 0)
/-- Is a tag right? -/
def rightB (k c n s d g o : Int) : Bool := inB k 4 && inB o 1048576 && (k == 3 || o == 0) && bitsB c n s d g && (!(k == 0 || k == 3) || noneB c n s d g)
/-- A right tag, told by its numbers. -/
def RightT (k c n s d g o : Int) : Prop :=
  (0 ≤ k ∧ k < 4) ∧ (0 ≤ o ∧ o < 1048576) ∧ (k = 3 ∨ o = 0) ∧ (0 ≤ c ∧ c < 2) ∧ (0 ≤ n ∧ n < 2) ∧ (0 ≤ s ∧ s < 2) ∧ (0 ≤ d ∧ d < 2) ∧ (0 ≤ g ∧ g < 2) ∧ ((k = 0 ∨ k = 3) → c = 0 ∧ n = 0 ∧ s = 0 ∧ d = 0 ∧ g = 0)
theorem rightB_iff {k c n s d g o : Int} : rightB k c n s d g o = true ↔ RightT k c n s d g o := by
  unfold rightB RightT bitsB noneB inB
  simp only [Bool.and_eq_true, Bool.or_eq_true, Bool.not_eq_true', Bool.or_eq_false_iff, decide_eq_true_eq, beq_iff_eq, beq_eq_false_iff_ne, ne_eq]
  omega
theorem rightB_yes {k c n s d g o : Int} (h : rightB k c n s d g o = true) : RightT k c n s d g o := rightB_iff.1 h
theorem rightB_mk {k c n s d g o : Int} (h : RightT k c n s d g o) : rightB k c n s d g o = true := rightB_iff.2 h
theorem rightB_no {k c n s d g o : Int} (h : ¬ RightT k c n s d g o) : rightB k c n s d g o = false := by
  cases h2 : rightB k c n s d g o with
  | false => rfl
  | true => exact absurd (rightB_yes h2) h

theorem bool_iff {a b : Bool} (h : a = true ↔ b = true) : a = b := by cases a <;> cases b <;> simp_all
theorem noneB_iff {c n s d g : Int} : noneB c n s d g = true ↔ c = 0 ∧ n = 0 ∧ s = 0 ∧ d = 0 ∧ g = 0 := by unfold noneB; simp
theorem bitsB_iff {c n s d g : Int} : bitsB c n s d g = true ↔ (0 ≤ c ∧ c < 2) ∧ (0 ≤ n ∧ n < 2) ∧ (0 ≤ s ∧ s < 2) ∧ (0 ≤ d ∧ d < 2) ∧ (0 ≤ g ∧ g < 2) := by
  unfold bitsB inB; simp [and_assoc]
theorem rgt_k {k c n s d g o : Int} (h : inB k 4 = false) : rightB k c n s d g o = false := by unfold rightB; rw [h]; rfl
theorem rgt_o {k c n s d g o : Int} (h : inB o 1048576 = false) : rightB k c n s d g o = false := by unfold rightB; rw [h]; simp
theorem rgt_no {k c n s d g o : Int} (h : ¬ k = 3) (h2 : ¬ o = 0) : rightB k c n s d g o = false := by
  refine rightB_no fun hr => ?_
  obtain ⟨_, _, h3, _⟩ := hr
  omega
theorem rgt_3 {c n s d g o : Int} (h : inB o 1048576 = true) : rightB 3 c n s d g o = noneB c n s d g := by
  have := inB_yes h
  refine bool_iff ?_
  rw [rightB_iff, noneB_iff]; unfold RightT
  omega
theorem rgt_0 {c n s d g : Int} : rightB 0 c n s d g 0 = noneB c n s d g := by
  refine bool_iff ?_
  rw [rightB_iff, noneB_iff]; unfold RightT
  omega
theorem rgt_s {k c n s d g : Int} (h : inB k 4 = true) (h0 : ¬ k = 0) (h3 : ¬ k = 3) : rightB k c n s d g 0 = bitsB c n s d g := by
  have := inB_yes h
  refine bool_iff ?_
  rw [rightB_iff, bitsB_iff]; unfold RightT
  omega

/-- A tag's word. -/
def packI (k c n s d g o : Int) : Int := k + 4 * c + 8 * n + 16 * s + 32 * d + 64 * g + 256 * o
def packV (k c n s d g o : Int) : Int := if rightB k c n s d g o = true then packI k c n s d g o else 0
def packE (k c n s d g o : Int) : Int := if rightB k c n s d g o = true then 0 else 2
theorem packV_yes {k c n s d g o : Int} (h : rightB k c n s d g o = true) : packV k c n s d g o = packI k c n s d g o := if_pos h
theorem packE_yes {k c n s d g o : Int} (h : rightB k c n s d g o = true) : packE k c n s d g o = 0 := if_pos h
theorem packV_no {k c n s d g o : Int} (h : rightB k c n s d g o = false) : packV k c n s d g o = 0 := by unfold packV; rw [h]; rfl
theorem packE_no {k c n s d g o : Int} (h : rightB k c n s d g o = false) : packE k c n s d g o = 2 := by unfold packE; rw [h]; rfl
theorem packI_bd {k c n s d g o : Int} (h : RightT k c n s d g o) : 0 ≤ packI k c n s d g o ∧ packI k c n s d g o ≤ 4294967295 := by
  obtain ⟨h1, h2, h3, h4, h5, h6, h7, h8, h9⟩ := h
  unfold packI; omega

/-- A piece put behind all that is set. -/
theorem putI_new {x a n v : Int} (h0 : 0 ≤ x) (hx : x < pw a) (hp : pieceB a n = true) : putI x a n v = x + v * pw a := by
  unfold putI getI
  rw [if_pos hp, Int.ediv_eq_zero_of_lt h0 hx]
  simp
theorem putV_new {x a n v : Int} (h0 : 0 ≤ x) (hx : x < pw a) (hp : pieceB a n = true) (hf : v < pw n) : putV x a n v = x + v * pw a := by
  rw [putV_yes hp (decide_eq_true hf), putI_new h0 hx hp]
theorem pw_1 : pw 1 = 2 := by decide
theorem pw_2 : pw 2 = 4 := by decide
theorem pw_3 : pw 3 = 8 := by decide
theorem pw_4 : pw 4 = 16 := by decide
theorem pw_5 : pw 5 = 32 := by decide
theorem pw_6 : pw 6 = 64 := by decide
theorem pw_8 : pw 8 = 256 := by decide
theorem pw_24 : pw 24 = 16777216 := by decide

/-- The words that Pack comes to, piece by piece. -/
def pk0 (k : Int) : Int := putV 0 0 2 k
def pk1 (k c : Int) : Int := putV (pk0 k) 2 1 c
def pk2 (k c n : Int) : Int := putV (pk1 k c) 3 1 n
def pk3 (k c n s : Int) : Int := putV (pk2 k c n) 4 1 s
def pk4 (k c n s d : Int) : Int := putV (pk3 k c n s) 5 1 d
def pk5 (k c n s d g : Int) : Int := putV (pk4 k c n s d) 6 1 g
def pk6 (k c n s d g o : Int) : Int := putV (pk5 k c n s d g) 8 24 o
theorem pk6_eq {k c n s d g o : Int} (h : RightT k c n s d g o) :
    pk6 k c n s d g o = packI k c n s d g o ∧ (0 ≤ pk0 k ∧ pk0 k ≤ 4294967295) ∧ (0 ≤ pk1 k c ∧ pk1 k c ≤ 4294967295) ∧ (0 ≤ pk2 k c n ∧ pk2 k c n ≤ 4294967295) ∧ (0 ≤ pk3 k c n s ∧ pk3 k c n s ≤ 4294967295) ∧ (0 ≤ pk4 k c n s d ∧ pk4 k c n s d ≤ 4294967295) ∧ (0 ≤ pk5 k c n s d g ∧ pk5 k c n s d g ≤ 4294967295) := by
  obtain ⟨h1, h2, h3, h4, h5, h6, h7, h8, h9⟩ := h
  have e0 : pk0 k = k := by
    unfold pk0; rw [putV_new (by omega) (by decide) (by decide) (by rw [pw_2]; omega), pw_0]; omega
  have e1 : pk1 k c = k + 4 * c := by
    unfold pk1; rw [e0, putV_new (by omega) (by rw [pw_2]; omega) (by decide) (by rw [pw_1]; omega), pw_2]; omega
  have e2 : pk2 k c n = k + 4 * c + 8 * n := by
    unfold pk2; rw [e1, putV_new (by omega) (by rw [pw_3]; omega) (by decide) (by rw [pw_1]; omega), pw_3]; omega
  have e3 : pk3 k c n s = k + 4 * c + 8 * n + 16 * s := by
    unfold pk3; rw [e2, putV_new (by omega) (by rw [pw_4]; omega) (by decide) (by rw [pw_1]; omega), pw_4]; omega
  have e4 : pk4 k c n s d = k + 4 * c + 8 * n + 16 * s + 32 * d := by
    unfold pk4; rw [e3, putV_new (by omega) (by rw [pw_5]; omega) (by decide) (by rw [pw_1]; omega), pw_5]; omega
  have e5 : pk5 k c n s d g = k + 4 * c + 8 * n + 16 * s + 32 * d + 64 * g := by
    unfold pk5; rw [e4, putV_new (by omega) (by rw [pw_6]; omega) (by decide) (by rw [pw_1]; omega), pw_6]; omega
  have e6 : pk6 k c n s d g o = k + 4 * c + 8 * n + 16 * s + 32 * d + 64 * g + 256 * o := by
    unfold pk6; rw [e5, putV_new (by omega) (by rw [pw_8]; omega) (by decide) (by rw [pw_24]; omega), pw_8]; omega
  unfold packI
  omega

/-- What a word says. -/
def uK (x : Int) : Int := x % 4
def uC (x : Int) : Int := x / 4 % 2
def uN (x : Int) : Int := x / 8 % 2
def uS (x : Int) : Int := x / 16 % 2
def uD (x : Int) : Int := x / 32 % 2
def uG (x : Int) : Int := x / 64 % 2
def uO (x : Int) : Int := x / 256
theorem get_uK (x : Int) : getI x 0 2 = uK x := by
  unfold getI uK; rw [if_pos (by decide), pw_0, pw_2, Int.ediv_one]
theorem get_uC (x : Int) : getI x 2 1 = uC x := by unfold getI uC; rw [if_pos (by decide), pw_1, pw_2]
theorem get_uN (x : Int) : getI x 3 1 = uN x := by unfold getI uN; rw [if_pos (by decide), pw_1, pw_3]
theorem get_uS (x : Int) : getI x 4 1 = uS x := by unfold getI uS; rw [if_pos (by decide), pw_1, pw_4]
theorem get_uD (x : Int) : getI x 5 1 = uD x := by unfold getI uD; rw [if_pos (by decide), pw_1, pw_5]
theorem get_uG (x : Int) : getI x 6 1 = uG x := by unfold getI uG; rw [if_pos (by decide), pw_1, pw_6]
theorem get_uO {x : Int} (h0 : 0 ≤ x) (h1 : x ≤ 4294967295) : getI x 8 24 = uO x := by
  unfold getI uO; rw [if_pos (by decide), pw_8, pw_24]; omega

/-- What is packed is unpacked as it was. -/
theorem unpack_pack {k c n s d g o : Int} (h : RightT k c n s d g o) :
    uK (packI k c n s d g o) = k ∧ uC (packI k c n s d g o) = c ∧ uN (packI k c n s d g o) = n ∧ uS (packI k c n s d g o) = s ∧ uD (packI k c n s d g o) = d ∧ uG (packI k c n s d g o) = g ∧ uO (packI k c n s d g o) = o := by
  obtain ⟨h1, h2, h3, h4, h5, h6, h7, h8, h9⟩ := h
  unfold packI uK uC uN uS uD uG uO
  omega
/-- What is unpacked is packed as it was, but for bit 7. -/
theorem pack_unpack (x : Int) : packI (uK x) (uC x) (uN x) (uS x) (uD x) (uG x) (uO x) = x - 128 * (x / 128 % 2) := by
  unfold packI uK uC uN uS uD uG uO
  omega
theorem not_128 {x : Int} (h0 : 0 ≤ x) (h1 : x ≤ 4294967295) : bits .andNot .u32 x 128 = x - 128 * (x / 128 % 2) := by
  obtain ⟨X, rfl⟩ := Int.eq_ofNat_of_zero_le h0
  rw [u32_andNot _ _ (by omega) (by omega) (by omega) (by omega)]
  have h := put_nat X 7 1 0 (by decide) (by omega) (by decide)
  simp only [Nat.zero_mul, Nat.or_zero, Nat.add_zero] at h
  rw [Int.toNat_natCast, show (128 : Int).toNat = (2 ^ 1 - 1) * 2 ^ 7 from rfl, h]
  omega

end Go.Proofs.YtljdbaddockfcaaGreat.Pk
