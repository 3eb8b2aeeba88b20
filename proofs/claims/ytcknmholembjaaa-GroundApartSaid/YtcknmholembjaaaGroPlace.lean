/-
  Places of a ground: put and get; how many words are not 0; no two places are one.
-/
import Derived.Test.YtcknmholembjaaaGroDo2
namespace Go.Proofs.Ytcknmholembjaaa.Pk
open Go.RowKit
set_option linter.unusedVariables false
set_option linter.unusedSimpArgs false

/-- Where a place lies. -/
def placeA (c : Cf) (k i v : Int) : Option Nat := if k = 0 then regA i else if k = 1 then rootA c i else wordA c i v
/-- A word that a register or a root slot does not need. -/
def nrm (k v : Int) : Int := if k < 2 then 0 else v
theorem placeA_lt {c : Cf} {k i v : Int} {j : Nat} (h : placeA c k i v = some j) : j < c.size := by
  unfold placeA at h
  split at h
  · exact regA_lt h
  · split at h
    · exact rootA_lt h
    · exact wordA_lt h
theorem regA_eq {r : Int} {j : Nat} (h : regA r = some j) : (j : Int) = r ∧ j < 24 := by
  unfold regA at h
  split at h
  · rename_i hb
    obtain ⟨i, rfl, hi⟩ := bel_nat hb
    cases h
    simp
    omega
  · cases h
theorem rootA_eq {c : Cf} {r : Int} {j : Nat} (h : rootA c r = some j) : (j : Int) = 24 + r ∧ 24 ≤ j ∧ j < 24 + c.R := by
  unfold rootA at h
  split at h
  · rename_i hb
    obtain ⟨i, rfl, hi⟩ := bel_nat hb
    cases h
    simp
    omega
  · cases h
theorem wordA_eq {c : Cf} {b v : Int} {j : Nat} (h : wordA c b v = some j) : ∃ i k : Nat, b = (i : Int) ∧ v = (k : Int) ∧ i < c.N ∧ k < c.W ∧ j = 24 + c.R + i * c.W + k := by
  unfold wordA at h
  split at h
  · rename_i hb
    rw [Bool.and_eq_true] at hb
    obtain ⟨i, rfl, hi⟩ := bel_nat hb.1
    obtain ⟨k, rfl, hk⟩ := bel_nat hb.2
    cases h
    exact ⟨i, k, rfl, rfl, hi, hk, by simp⟩
  · cases h
theorem row_inj {W i k i' k' : Nat} (hk : k < W) (hk' : k' < W) (h : i * W + k = i' * W + k') : i = i' ∧ k = k' := by
  have h1 : (i * W + k) / W = i := by rw [Nat.mul_comm, Nat.mul_add_div (by omega), Nat.div_eq_of_lt hk]; omega
  have h2 : (i' * W + k') / W = i' := by rw [Nat.mul_comm, Nat.mul_add_div (by omega), Nat.div_eq_of_lt hk']; omega
  have e : i = i' := by rw [← h1, ← h2, h]
  subst e
  omega
/-- No two places are one. -/
theorem placeA_inj {c : Cf} {k i v k' i' v' : Int} {j : Nat} (h0 : 0 ≤ k) (h2 : k ≤ 2) (h0' : 0 ≤ k') (h2' : k' ≤ 2) (h : placeA c k i (nrm k v) = some j) (h' : placeA c k' i' (nrm k' v') = some j) :
    k = k' ∧ i = i' ∧ nrm k v = nrm k' v' := by
  have cs : ∀ k : Int, 0 ≤ k → k ≤ 2 → k = 0 ∨ k = 1 ∨ k = 2 := fun k a b => by omega
  rcases cs k h0 h2 with rfl | rfl | rfl <;> rcases cs k' h0' h2' with rfl | rfl | rfl <;> simp only [placeA, nrm] at h h' ⊢ <;> simp at h h' ⊢
  · have := regA_eq h; have := regA_eq h'; omega
  · have := regA_eq h; have := rootA_eq h'; omega
  · obtain ⟨a, b, _, _, _, _, e⟩ := wordA_eq h'; have := regA_eq h; omega
  · have := rootA_eq h; have := regA_eq h'; omega
  · have := rootA_eq h; have := rootA_eq h'; omega
  · obtain ⟨a, b, _, _, _, _, e⟩ := wordA_eq h'; have := rootA_eq h; omega
  · obtain ⟨a, b, _, _, _, _, e⟩ := wordA_eq h; have := regA_eq h'; omega
  · obtain ⟨a, b, _, _, _, _, e⟩ := wordA_eq h; have := rootA_eq h'; omega
  · obtain ⟨a, b, rfl, rfl, ha, hb, e⟩ := wordA_eq h
    obtain ⟨a', b', rfl, rfl, ha', hb', e'⟩ := wordA_eq h'
    obtain ⟨h3, h4⟩ := row_inj hb hb' (show a * c.W + b = a' * c.W + b' by omega)
    omega

/-- How many of the first words are not 0. -/
def nzTo (zs : List Int) : Nat → Nat
  | 0 => 0
  | k + 1 => nzTo zs k + (if nth zs k = 0 then 0 else 1)
theorem nzTo_le (zs : List Int) (k : Nat) : nzTo zs k ≤ k := by
  induction k with
  | zero => exact Nat.le_refl _
  | succ k ih => unfold nzTo; split <;> omega
theorem nzTo_one (n a : Nat) (x : Int) (hx : x ≠ 0) (ha : a < n) (k : Nat) : nzTo ((List.replicate n 0).set a x) k = if a < k then 1 else 0 := by
  induction k with
  | zero => simp [nzTo]
  | succ k ih =>
    unfold nzTo
    rw [ih]
    by_cases e : a = k
    · subst e
      rw [nth_set_eq (by simpa using ha)]
      simp [hx]
    · rw [nth_set_ne e, nth_rep, if_pos rfl]
      split <;> split <;> omega
theorem nzTo_two (n a b : Nat) (x y : Int) (hx : x ≠ 0) (hy : y ≠ 0) (ha : a < n) (hb : b < n) (hab : a ≠ b) (k : Nat) :
    nzTo (((List.replicate n 0).set a x).set b y) k = (if a < k then 1 else 0) + (if b < k then 1 else 0) := by
  induction k with
  | zero => simp [nzTo]
  | succ k ih =>
    unfold nzTo
    rw [ih]
    by_cases e : b = k
    · subst e
      rw [nth_set_eq (by simpa using hb)]
      by_cases h : a < b
      · rw [if_pos h, if_pos (by omega : a < b + 1)]; simp [hy]
      · rw [if_neg h, if_neg (by omega : ¬ a < b + 1)]; simp [hy]
    · rw [nth_set_ne e]
      by_cases e' : a = k
      · subst e'
        rw [nth_set_eq (by simpa using ha)]
        by_cases h : b < a
        · rw [if_pos h, if_pos (by omega : b < a + 1)]; simp [hx]
        · rw [if_neg h, if_neg (by omega : ¬ b < a + 1)]; simp [hx]
      · rw [nth_set_ne e', nth_rep, if_pos rfl]
        split <;> split <;> split <;> split <;> omega

theorem put_any (p : Pl) (c : Cf) (s : St) (k i v x : Int) (w : World) (hG : G w p c s) (h0 : 0 ≤ x) (h1 : x ≤ 4294967295) :
    Calls Try.prog 19 #[.pointer (some ⟨p.a, 0, none⟩), .agg #[.int .u8 k, .int .i64 i, .int .i64 v], .int .i64 x] w (GP w p c (s.put (placeA c k i v) x) (.bool (placeA c k i v).isSome)) := by
  have hr := fun w hG => setreg_any p c s i x w hG
  have ho := fun w hG => setroot_any p c s i x w hG
  simp only [putN_fits h0 h1, putB_fits h0 h1] at hr ho
  have HR := Lib.hid hr
  have HO := Lib.hid ho
  have hwr : IntKind.u32.wrap x = x := IntWalk.u32_in _ ⟨h0, h1⟩
  have HG := Lib.hid (hG.alloc (.cells #[.int .u8 k, .int .i64 i, .int .i64 v] 53))
  have HT0 : Hid (Touch (inG p) w (w.alloc (.cells #[.int .u8 k, .int .i64 i, .int .i64 v] 53))) := Lib.hid ((Touch.refl _ w).alloc _)
  clear hG hr ho
  unfold placeA
  by_cases k0 : k = 0
  · subst k0
    rw [if_pos rfl]
    go_enter Try.func19, Try.ntmps19
    go_wp2_with fail
    refine (HR.out _ HG.out).mono ?_
    rintro e w1 ⟨rfl, hG, hT⟩
    have HG1 := Lib.hid hG
    have HT1 := Lib.hid (HT0.out.trans hT)
    clear hG hT
    go_wp2_with fail
    go_ret
    exact ⟨rfl, HG1.out, HT1.out⟩
  rw [if_neg k0]
  have b0 : (k == 0) = false := bne_of' k0
  by_cases k1 : k = 1
  · subst k1
    rw [if_pos rfl]
    go_enter Try.func19, Try.ntmps19
    go_wp2_with fail
    refine (HO.out _ HG.out).mono ?_
    rintro e w1 ⟨rfl, hG, hT⟩
    have HG1 := Lib.hid hG
    have HT1 := Lib.hid (HT0.out.trans hT)
    clear hG hT
    go_wp2_with fail
    go_ret
    exact ⟨rfl, HG1.out, HT1.out⟩
  rw [if_neg k1]
  have b1 : (k == 1) = false := bne_of' k1
  clear k0 k1
  go_enter Try.func19, Try.ntmps19
  go_wp2_with fail
  refine (setword_any p c s i v x _ HG.out h0 h1).mono ?_
  rintro e w1 ⟨rfl, hG, hT⟩
  have HG1 := Lib.hid hG
  have HT1 := Lib.hid (HT0.out.trans hT)
  clear hG hT
  go_wp2_with fail
  go_ret
  exact ⟨rfl, HG1.out, HT1.out⟩

theorem putV (p : Pl) (c : Cf) (s : St) (k i v x : Int) (w : World) (hG : G w p c s) (h0 : 0 ≤ x) (h1 : x ≤ 4294967295) {o : Option Nat} (ho : placeA c k i v = o) :
    Calls Try.prog 19 #[.pointer (some ⟨p.a, 0, none⟩), .agg #[.int .u8 k, .int .i64 i, .int .i64 v], .int .i64 x] w (GP w p c (s.put o x) (.bool o.isSome)) := by
  subst ho
  exact put_any p c s k i v x w hG h0 h1
theorem get_any (p : Pl) (c : Cf) (s : St) (k i v : Int) (w : World) (hG : G w p c s) :
    Calls Try.prog 20 #[.pointer (some ⟨p.a, 0, none⟩), .agg #[.int .u8 k, .int .i64 i, .int .i64 v]] w (GP w p c (s.ask (placeA c k i v)) (.int .i64 (s.at? (placeA c k i v)))) := by
  have hwr : IntKind.i64.wrap (s.at? (wordA c i v)) = s.at? (wordA c i v) := by have := St.at?_wf hG.wf (wordA c i v); exact IntWalk.i64_in _ (by omega)
  have HG := Lib.hid (hG.alloc (.cells #[.int .u8 k, .int .i64 i, .int .i64 v] 53))
  have HT0 : Hid (Touch (inG p) w (w.alloc (.cells #[.int .u8 k, .int .i64 i, .int .i64 v] 53))) := Lib.hid ((Touch.refl _ w).alloc _)
  clear hG
  unfold placeA
  by_cases k0 : k = 0
  · subst k0
    rw [if_pos rfl]
    go_enter Try.func20, Try.ntmps20
    go_wp2_with fail
    refine (reg_any p c s i _ HG.out).mono ?_
    rintro e w1 ⟨rfl, hG, hT⟩
    have HG1 := Lib.hid hG
    have HT1 := Lib.hid (HT0.out.trans hT)
    clear hG hT
    go_wp2_with fail
    go_ret
    exact ⟨rfl, HG1.out, HT1.out⟩
  rw [if_neg k0]
  have b0 : (k == 0) = false := bne_of' k0
  by_cases k1 : k = 1
  · subst k1
    rw [if_pos rfl]
    go_enter Try.func20, Try.ntmps20
    go_wp2_with fail
    refine (root_any p c s i _ HG.out).mono ?_
    rintro e w1 ⟨rfl, hG, hT⟩
    have HG1 := Lib.hid hG
    have HT1 := Lib.hid (HT0.out.trans hT)
    clear hG hT
    go_wp2_with fail
    go_ret
    exact ⟨rfl, HG1.out, HT1.out⟩
  rw [if_neg k1]
  have b1 : (k == 1) = false := bne_of' k1
  clear k0 k1
  go_enter Try.func20, Try.ntmps20
  go_wp2_with fail
  refine (word_any p c s i v _ HG.out).mono ?_
  rintro e w1 ⟨rfl, hG, hT⟩
  have HG1 := Lib.hid hG
  have HT1 := Lib.hid (HT0.out.trans hT)
  clear hG hT
  go_wp2_with fail
  go_ret
  exact ⟨rfl, HG1.out, HT1.out⟩

theorem getV (p : Pl) (c : Cf) (s : St) (k i v : Int) (w : World) (hG : G w p c s) {j : Nat} (ho : placeA c k i v = some j) {x : Int} (hx : nth s.zs j = x) :
    Calls Try.prog 20 #[.pointer (some ⟨p.a, 0, none⟩), .agg #[.int .u8 k, .int .i64 i, .int .i64 v]] w (GP w p c s.got (.int .i64 x)) := by
  have := get_any p c s k i v w hG
  rw [ho] at this
  subst hx
  exact this

end Go.Proofs.Ytcknmholembjaaa.Pk
