/-
  One contract for each function on pieces, whatever it is given: the program's and the document's end alike.
-/
import Derived.Test.YtgfpcamgebnfmaaPackSplit
namespace Go.Proofs.Ytgfpcamgebnfmaa.Pk
open Go.RowKit
set_option linter.unusedVariables false
set_option linter.unusedSimpArgs false

/-- Put's word, and Put's error. -/
def putV (x a n v : Int) : Int := if pieceB a n = true then (if fitB v n = true then putI x a n v else 0) else 0
def putE (a n v : Int) : Int := if pieceB a n = true then (if fitB v n = true then 0 else 15) else 2
theorem putV_yes {x a n v : Int} (h1 : pieceB a n = true) (h2 : fitB v n = true) : putV x a n v = putI x a n v := by unfold putV; rw [if_pos h1, if_pos h2]
theorem putE_yes {a n v : Int} (h1 : pieceB a n = true) (h2 : fitB v n = true) : putE a n v = 0 := by unfold putE; rw [if_pos h1, if_pos h2]
theorem putE_zero {a n v : Int} (h : putE a n v = 0) : pieceB a n = true ∧ fitB v n = true := by
  unfold putE at h
  by_cases h1 : pieceB a n = true
  · rw [if_pos h1] at h
    by_cases h2 : fitB v n = true
    · exact ⟨h1, h2⟩
    · rw [if_neg h2] at h; cases h
  · rw [if_neg h1] at h; cases h
theorem putV_bad {x a n v : Int} (h : putE a n v ≠ 0) : putV x a n v = 0 := by
  unfold putE at h
  unfold putV
  by_cases h1 : pieceB a n = true
  · rw [if_pos h1] at h ⊢
    by_cases h2 : fitB v n = true
    · rw [if_pos h2] at h; exact absurd rfl h
    · rw [if_neg h2]
  · rw [if_neg h1]
theorem ret_put2 {a b c d : Int} (h : a = b) (h2 : c = d) : Ending.returned (.tuple #[.int .u32 a, .int .i64 c]) = .returned (.tuple #[.int .u32 b, .int .i64 d]) := by rw [h, h2]

theorem get_any (x a n : Int) (w : World) (h0 : 0 ≤ x) (h1 : x ≤ 4294967295) :
    Calls Try.prog 54 #[.int .u32 x, .int .i64 a, .int .i64 n] w fun e w' => e = .returned (.int .u32 (getI x a n)) ∧ Drw w w' := by
  cases hp : pieceB a n
  · refine (get_no x a n w hp).mono fun e w' ⟨he, hw⟩ => ⟨?_, hw ▸ Drw.refl w⟩
    rw [he]; exact ret_int (by unfold getI; rw [hp]; rfl)
  · exact get_yes x a n w h0 h1 hp

theorem putV_bd (x a n v : Int) (h0 : 0 ≤ x) (h1 : x ≤ 4294967295) (hv0 : 0 ≤ v) : 0 ≤ putV x a n v ∧ putV x a n v ≤ 4294967295 := by
  unfold putV
  split
  · rename_i hp
    split
    · rename_i hf
      exact ⟨putI_lo h0 hv0 hp, putI_hi h0 h1 hv0 hp hf⟩
    · omega
  · omega

open Classical in
/-- Join's word, and Join's error. -/
noncomputable def joinE (zs ls : List Int) : Int := if rightTo zs zs.length ∧ ls.length = zs.length then (if fitsTo zs ls zs.length then 0 else 15) else 2
open Classical in
noncomputable def joinV (zs ls : List Int) : Int := if joinE zs ls = 0 then joinTo zs ls zs.length else 0
theorem joinE_yes {zs ls : List Int} (h1 : rightTo zs zs.length) (h2 : ls.length = zs.length) (h3 : fitsTo zs ls zs.length) : joinE zs ls = 0 := by
  unfold joinE; rw [if_pos ⟨h1, h2⟩, if_pos h3]
theorem joinE_big {zs ls : List Int} (h1 : rightTo zs zs.length) (h2 : ls.length = zs.length) (h3 : ¬ fitsTo zs ls zs.length) : joinE zs ls = 15 := by
  unfold joinE; rw [if_pos ⟨h1, h2⟩, if_neg h3]
theorem joinE_bad {zs ls : List Int} (h : ¬ (rightTo zs zs.length ∧ ls.length = zs.length)) : joinE zs ls = 2 := by
  unfold joinE; rw [if_neg h]
theorem joinV_yes {zs ls : List Int} (h : joinE zs ls = 0) : joinV zs ls = joinTo zs ls zs.length := by unfold joinV; rw [if_pos h]
theorem joinV_bad {zs ls : List Int} (h : joinE zs ls ≠ 0) : joinV zs ls = 0 := by unfold joinV; rw [if_neg h]
theorem joinE_zero {zs ls : List Int} (h : joinE zs ls = 0) : rightTo zs zs.length ∧ ls.length = zs.length ∧ fitsTo zs ls zs.length := by
  by_cases h1 : rightTo zs zs.length ∧ ls.length = zs.length
  · by_cases h2 : fitsTo zs ls zs.length
    · exact ⟨h1.1, h1.2, h2⟩
    · rw [joinE_big h1.1 h1.2 h2] at h; cases h
  · rw [joinE_bad h1] at h; cases h

open Classical in
/-- Split's numbers, and Split's error. -/
noncomputable def splitE (x : Int) (zs : List Int) : Int := if rightTo zs zs.length then (if fitB x (sumTo zs zs.length) = true then 0 else 15) else 2
open Classical in
noncomputable def splitL (x : Int) (zs : List Int) : List Int := if splitE x zs = 0 then splitTo x zs zs.length else []
theorem splitE_yes {x : Int} {zs : List Int} (h1 : rightTo zs zs.length) (h2 : fitB x (sumTo zs zs.length) = true) : splitE x zs = 0 := by
  unfold splitE; rw [if_pos h1, if_pos h2]
theorem splitE_big {x : Int} {zs : List Int} (h1 : rightTo zs zs.length) (h2 : fitB x (sumTo zs zs.length) = false) : splitE x zs = 15 := by
  unfold splitE; rw [if_pos h1, h2]; rfl
theorem splitE_bad {x : Int} {zs : List Int} (h1 : ¬ rightTo zs zs.length) : splitE x zs = 2 := by
  unfold splitE; rw [if_neg h1]
theorem splitL_yes {x : Int} {zs : List Int} (h : splitE x zs = 0) : splitL x zs = splitTo x zs zs.length := by unfold splitL; rw [if_pos h]
theorem splitL_bad {x : Int} {zs : List Int} (h : splitE x zs ≠ 0) : splitL x zs = [] := by unfold splitL; rw [if_neg h]
theorem splitE_zero {x : Int} {zs : List Int} (h : splitE x zs = 0) : rightTo zs zs.length ∧ fitB x (sumTo zs zs.length) = true := by
  by_cases h1 : rightTo zs zs.length
  · cases h2 : fitB x (sumTo zs zs.length)
    · rw [splitE_big h1 h2] at h; cases h
    · exact ⟨h1, rfl⟩
  · rw [splitE_bad h1] at h; cases h

/-- The end of a Split, whatever it was given. -/
def Splitted (x : Int) (zs : List Int) (w : World) (e : Ending) (w' : World) : Prop :=
  ∃ a cap, e = .returned (.tuple #[.slice a (splitL x zs).length cap, .int .i64 (splitE x zs)]) ∧ Row w' .u32 a (splitL x zs) ∧ Below w.heap.size w w'
theorem Splitted.of_pieces {x : Int} {zs : List Int} {w w' : World} {e : Ending} (h1 : rightTo zs zs.length) (h2 : fitB x (sumTo zs zs.length) = true) (h : Pieces x zs w e w') : Splitted x zs w e w' := by
  obtain ⟨a, cap, he, hr, hb⟩ := h
  have h3 := splitE_yes h1 h2
  refine ⟨a, cap, ?_, ?_, hb⟩
  · rw [splitL_yes h3, splitTo_length, h3]; exact he
  · rw [splitL_yes h3]; exact hr
theorem Splitted.of_bad {x : Int} {zs : List Int} {w w' : World} {c : Int} (h : splitE x zs = c) (hc : c ≠ 0) (hb : Below w.heap.size w w') : Splitted x zs w (.returned (.tuple #[.slice none 0 0, .int .i64 c])) w' := by
  have h3 := splitL_bad (x := x) (zs := zs) (by rw [h]; exact hc)
  exact ⟨none, 0, by rw [h3, h]; rfl, by rw [h3]; exact Row.nil _ _ _, hb⟩

theorem joinV_bd (zs ls : List Int) (hu : U32s ls) : 0 ≤ joinV zs ls ∧ joinV zs ls ≤ 4294967295 := by
  by_cases h : joinE zs ls = 0
  · obtain ⟨h1, h2, h3⟩ := joinE_zero h
    rw [joinV_yes h]; exact joinTo_32 h1 hu h3
  · rw [joinV_bad h]; omega

/-! ### What is put is got -/
theorem getI_put {x a n v : Int} (h0 : 0 ≤ x) (h1 : x ≤ 4294967295) (hv0 : 0 ≤ v) (hp : pieceB a n = true) (hf : fitB v n = true) (a2 n2 : Int) (hp2 : pieceB a2 n2 = true) (hd : a + n ≤ a2 ∨ a2 + n2 ≤ a) :
    getI (putI x a n v) a2 n2 = getI x a2 n2 := by
  obtain ⟨ha, hn1, hn2, hd1⟩ := pieceB_yes hp
  obtain ⟨ha2, hm1, hm2, hd2⟩ := pieceB_yes hp2
  have hv : v < pw n := of_decide_eq_true hf
  have hA := pw_pos a
  have hN := pw_pos n
  have hA2 := pw_pos a2
  have hM := pw_pos n2
  -- x in three pieces: low + mid * 2^a + high * 2^(a+n)
  have e1 := Int.emod_add_mul_ediv x (pw a)
  have e2 := Int.emod_add_mul_ediv (x / pw a) (pw n)
  have l1 := Int.emod_nonneg x (by omega : pw a ≠ 0)
  have l2 := Int.emod_lt_of_pos x hA
  unfold putI
  have g : getI x a n = x / pw a % pw n := by unfold getI; rw [if_pos hp]
  rw [g]
  generalize x % pw a = lo at *
  generalize hmid : x / pw a % pw n = mid at *
  generalize x / pw a / pw n = hi at *
  have m0 : 0 ≤ mid := by rw [← hmid]; exact Int.emod_nonneg _ (by omega)
  have m1 : mid < pw n := by rw [← hmid]; exact Int.emod_lt_of_pos _ hN
  have ex : x = lo + mid * pw a + hi * (pw a * pw n) := by
    rw [← e1, ← e2, Int.mul_add, Int.mul_comm (pw a) mid, ← Int.mul_assoc (pw a), Int.mul_comm (pw a * pw n)]
    omega
  have ey : x - mid * pw a + v * pw a = lo + v * pw a + hi * (pw a * pw n) := by omega
  rw [ey]
  unfold getI
  rw [if_pos hp2, if_pos hp2]
  rcases hd with hd | hd
  · -- behind it
    have ep : pw a2 = pw (a2 - (a + n)) * (pw a * pw n) := by
      rw [← pw_add ha (by omega), ← pw_add (by omega) (by omega)]; congr 1; omega
    have hB : 0 < pw a * pw n := Int.mul_pos hA hN
    have small : ∀ u : Int, 0 ≤ u → u < pw n → (lo + u * pw a + hi * (pw a * pw n)) / pw a2 = hi / pw (a2 - (a + n)) := by
      intro u u0 u1
      have s1 : lo + u * pw a < pw a * pw n := by
        have : (u + 1) * pw a ≤ pw n * pw a := Int.mul_le_mul_of_nonneg_right (by omega) (by omega)
        rw [Int.add_mul, Int.mul_comm (pw n)] at this
        omega
      have s0 : 0 ≤ lo + u * pw a := by have := Int.mul_nonneg u0 (Int.le_of_lt hA); omega
      rw [ep, Int.mul_comm (pw (a2 - (a + n))), ← Int.ediv_ediv_of_nonneg (Int.le_of_lt hB), Int.add_mul_ediv_right _ _ (by omega), Int.ediv_eq_zero_of_lt s0 s1, Int.zero_add]
    rw [small v hv0 hv, ex, small mid m0 m1]
  · -- ahead of it
    have ep : pw a = pw (a - (a2 + n2)) * pw n2 * pw a2 := by
      rw [← pw_add (by omega) (by omega), ← pw_add (by omega) ha2]; congr 1; omega
    have both : ∀ u : Int, (lo + u * pw a + hi * (pw a * pw n)) / pw a2 % pw n2 = lo / pw a2 % pw n2 := by
      intro u
      have e : lo + u * pw a + hi * (pw a * pw n) = lo + (u * pw (a - (a2 + n2)) + hi * pw n * pw (a - (a2 + n2))) * pw n2 * pw a2 := by
        have t1 : u * pw a = u * pw (a - (a2 + n2)) * pw n2 * pw a2 := by rw [ep]; simp only [Int.mul_assoc]
        have t2 : hi * (pw a * pw n) = hi * pw n * pw (a - (a2 + n2)) * pw n2 * pw a2 := by
          rw [Int.mul_comm (pw a) (pw n), ← Int.mul_assoc]
          rw [show hi * pw n * pw a = hi * pw n * (pw (a - (a2 + n2)) * pw n2 * pw a2) by rw [← ep]]
          simp only [Int.mul_assoc]
        rw [t1, t2, Int.add_mul, Int.add_mul, Int.add_assoc]
      rw [e, Int.add_mul_ediv_right _ _ (by omega), Int.add_mul_emod_self_right]
    rw [both v, ex, both mid]

theorem getI_same {x a n v : Int} (h0 : 0 ≤ x) (hv0 : 0 ≤ v) (hp : pieceB a n = true) (hf : fitB v n = true) : getI (putI x a n v) a n = v := by
  obtain ⟨ha, hn1, hn2, hd1⟩ := pieceB_yes hp
  have hv : v < pw n := of_decide_eq_true hf
  have hA := pw_pos a
  have hN := pw_pos n
  have e1 := Int.emod_add_mul_ediv x (pw a)
  have e2 := Int.emod_add_mul_ediv (x / pw a) (pw n)
  have l1 := Int.emod_nonneg x (by omega : pw a ≠ 0)
  have l2 := Int.emod_lt_of_pos x hA
  unfold putI
  have g : getI x a n = x / pw a % pw n := by unfold getI; rw [if_pos hp]
  rw [g]
  unfold getI
  rw [if_pos hp]
  have ey : x - x / pw a % pw n * pw a + v * pw a = x % pw a + (v + x / pw a / pw n * pw n) * pw a := by
    have t : pw a * (x / pw a) = x / pw a % pw n * pw a + x / pw a / pw n * pw n * pw a := by
      rw [← Int.add_mul, Int.mul_comm (x / pw a / pw n), e2, Int.mul_comm]
    rw [Int.add_mul]
    omega
  rw [ey, Int.add_mul_ediv_right _ _ (by omega), Int.ediv_eq_zero_of_lt l1 l2, Int.zero_add, Int.add_mul_emod_self_right, Int.emod_eq_of_lt hv0 hv]

theorem fit_get {x a n : Int} (hp : pieceB a n = true) : fitB (getI x a n) n = true := by
  unfold fitB; exact decide_eq_true getI_lt
theorem put_back {x a n v : Int} (h0 : 0 ≤ x) (hv0 : 0 ≤ v) (hp : pieceB a n = true) (hf : fitB v n = true) : putI (putI x a n v) a n (getI x a n) = x := by
  have e := getI_same h0 hv0 hp hf
  show putI x a n v - getI (putI x a n v) a n * pw a + getI x a n * pw a = x
  rw [e]
  unfold putI
  omega


end Go.Proofs.Ytgfpcamgebnfmaa.Pk
