/- The statement PackBack holds for every input: what is joined is split into the same numbers, what is split is joined to the same word, a word has as many ones as its pieces together, and the chapter's examples hold. No condition. -/
import Derived.Test.YtmhehnckjmoikaaRows
import Derived.Test.YtmhehnckjmoikaaPackAny
import Derived.Test.YtmhehnckjmoikaaBegun1
import Derived.WalkKit
import Derived.ProofKit
import Derived.OpenShut
import Derived.ChangeOld
import Derived.Carry
import Derived.Lib.SmallJoins
namespace Go.Proofs.Ytmhehnckjmoikaa.packBack
open Go.ChangeShapes Go.WideShapes Go.ChangeAt Go.RowKit Go.Joins
open Go.Proofs.Ytmhehnckjmoikaa.Pk
set_option linter.unusedVariables false
set_option linter.unusedSimpArgs false

theorem own : ownKnob Try.prog.godebug = none := by kernel_rfl
theorem laidOut : laidOutB Try.prog = true := by kernel_rfl

theorem list_ext {l m : List Int} (h : l.length = m.length) (h2 : ∀ j, j < l.length → nth l j = nth m j) : l = m := by
  apply List.ext_getElem h
  intro i h3 h4
  have e := h2 i h3
  unfold nth at e
  simpa [List.getD, h3, h4] using e

theorem join_get {zs ls : List Int} (hu : U32s ls) {k : Nat} (hr : rightTo zs k) (hf : fitsTo zs ls k) : ∀ j, j < k → getI (joinTo zs ls k) (sumTo zs j) (nth zs j) = nth ls j := by
  induction k with
  | zero => intro j hj; omega
  | succ k ih =>
    intro j hj
    have hr' := rightTo_mono hr (Nat.le_succ k)
    have hf' := fitsTo_mono hf (Nat.le_succ k)
    have b := joinTo_32 hr' hu hf'
    have hp := rightTo_piece hr
    have hfit := hf k (by omega)
    rw [← join_put hr' hu hf']
    by_cases e : j = k
    · subst e; exact getI_same b.1 (hu j).1 hp hfit
    · have hlt : j < k := by omega
      have hp2 := rightTo_piece (rightTo_mono hr (show j + 1 ≤ k + 1 by omega))
      have hs := sumTo_mono hr' (show j + 1 ≤ k by omega)
      rw [sumTo_succ] at hs
      rw [getI_put b.1 b.2 (hu k).1 hp hfit _ _ hp2 (.inr hs)]
      exact ih hr' hf' j hlt

theorem join_split {zs ls : List Int} (hu : U32s ls) (h : joinE zs ls = 0) : splitE (joinV zs ls) zs = 0 ∧ splitL (joinV zs ls) zs = ls := by
  obtain ⟨hr, hn, hf⟩ := joinE_zero h
  have hb := joinTo_bd hr hu hf
  have hE : splitE (joinV zs ls) zs = 0 := by
    refine splitE_yes hr ?_
    rw [joinV_yes h]
    exact decide_eq_true hb.2
  refine ⟨hE, ?_⟩
  rw [splitL_yes hE, joinV_yes h]
  refine list_ext (by rw [splitTo_length, hn]) fun j hj => ?_
  rw [splitTo_length] at hj
  rw [splitTo_nth hj]
  exact join_get hu hr hf j hj

/-- The number of ones in the k first numbers. -/
def onesSum (ls : List Int) : Nat → Int
  | 0 => 0
  | k + 1 => onesSum ls k + onesI (nth ls k)
theorem onesSum_succ (ls : List Int) (k : Nat) : onesSum ls (k + 1) = onesSum ls k + onesI (nth ls k) := rfl
theorem onesI_bd (x : Int) : 0 ≤ onesI x ∧ onesI x ≤ 32 := by
  unfold onesI
  have := onesN_le 32 x.toNat
  omega
theorem onesSum_bd (ls : List Int) (k : Nat) : 0 ≤ onesSum ls k ∧ onesSum ls k ≤ 32 * k := by
  induction k with
  | zero => exact ⟨Int.le_refl _, by simp [onesSum]⟩
  | succ k ih => have := onesI_bd (nth ls k); rw [onesSum_succ]; omega

theorem ones_put {A l s n : Nat} (hA : A < 2 ^ s) (hl : l < 2 ^ n) (hs : s + n ≤ 32) : onesN 32 (A + l * 2 ^ s) = onesN 32 A + onesN 32 l := by
  have e := onesN_add s (32 - s) (A + l * 2 ^ s)
  have e1 := onesN_small s (32 - s) A hA
  have e2 := onesN_small (32 - s) s l (Nat.lt_of_lt_of_le hl (Nat.pow_le_pow_right (by decide) (by omega)))
  rw [show s + (32 - s) = 32 by omega] at e e1
  rw [show 32 - s + s = 32 by omega] at e2
  rw [e, e1, e2, Nat.add_mul_mod_self_right, Nat.mod_eq_of_lt hA, Nat.add_mul_div_right _ _ (Nat.two_pow_pos s), Nat.div_eq_of_lt hA, Nat.zero_add]

theorem join_ones {zs ls : List Int} (hu : U32s ls) {k : Nat} (hr : rightTo zs k) (hf : fitsTo zs ls k) : onesI (joinTo zs ls k) = onesSum ls k := by
  induction k with
  | zero => simp [joinTo, onesSum, onesI, onesN_zero]
  | succ k ih =>
    have hr' := rightTo_mono hr (Nat.le_succ k)
    have hf' := fitsTo_mono hf (Nat.le_succ k)
    have b := joinTo_bd hr' hu hf'
    obtain ⟨s1, s2⟩ := rightTo_bd hr'
    obtain ⟨r1, r2⟩ := hr k (by omega)
    have hv : nth ls k < pw (nth zs k) := of_decide_eq_true (hf k (by omega))
    rw [onesSum_succ, ← ih hr' hf', joinTo_succ]
    obtain ⟨A, hA⟩ := Int.eq_ofNat_of_zero_le b.1
    obtain ⟨L, hL⟩ := Int.eq_ofNat_of_zero_le (hu k).1
    obtain ⟨S, hS⟩ := Int.eq_ofNat_of_zero_le (show 0 ≤ sumTo zs k by omega)
    obtain ⟨N, hN⟩ := Int.eq_ofNat_of_zero_le (show 0 ≤ nth zs k by omega)
    rw [hA, hS] at b
    rw [hL, hN] at hv
    rw [hA, hL, hS]
    have eS : pw (S : Int) = ((2 ^ S : Nat) : Int) := by unfold pw; simp
    have eN : pw (N : Int) = ((2 ^ N : Nat) : Int) := by unfold pw; simp
    rw [eS] at b ⊢
    rw [eN] at hv
    have e := ones_put (A := A) (l := L) (s := S) (n := N) (by omega) (by omega) (by omega)
    unfold onesI
    rw [← Int.natCast_mul, ← Int.natCast_add, Int.toNat_natCast, Int.toNat_natCast, Int.toNat_natCast, e]
    simp

theorem split_join_to {x : Int} (h0 : 0 ≤ x) {zs : List Int} {n : Nat} : ∀ k, k ≤ n → rightTo zs n → joinTo zs (splitTo x zs n) k = x % pw (sumTo zs k) := by
  intro k
  induction k with
  | zero => intro _ _; show (0 : Int) = x % pw 0; rw [pw_0]; simp [Int.emod_one]
  | succ k ih =>
    intro hk hr
    have hr1 := rightTo_mono hr hk
    have hr' := rightTo_mono hr (show k ≤ n by omega)
    obtain ⟨s1, s2⟩ := rightTo_bd hr'
    obtain ⟨r1, r2⟩ := hr k (by omega)
    have hp := rightTo_piece hr1
    rw [joinTo_succ, ih (by omega) hr, splitTo_nth (by omega), sumTo_succ, pw_add (by omega) (by omega)]
    unfold getI
    rw [if_pos hp]
    have hA := pw_pos (sumTo zs k)
    have hN := pw_pos (nth zs k)
    have e1 := Int.emod_add_mul_ediv x (pw (sumTo zs k))
    have e2 := Int.emod_add_mul_ediv (x / pw (sumTo zs k)) (pw (nth zs k))
    have e3 := Int.emod_add_mul_ediv x (pw (sumTo zs k) * pw (nth zs k))
    rw [Int.ediv_ediv_of_nonneg (Int.le_of_lt hA)] at e2
    rw [← e2, Int.mul_add] at e1
    rw [Int.mul_comm (x / pw (sumTo zs k) % pw (nth zs k))]
    rw [← Int.mul_assoc] at e1
    omega

theorem split_join {x : Int} {zs : List Int} (h0 : 0 ≤ x) (h : splitE x zs = 0) : joinE zs (splitL x zs) = 0 ∧ joinV zs (splitL x zs) = x := by
  obtain ⟨hr, hf⟩ := splitE_zero h
  have hx : x < pw (sumTo zs zs.length) := of_decide_eq_true hf
  have hE : joinE zs (splitL x zs) = 0 := by
    rw [splitL_yes h]
    refine joinE_yes hr (splitTo_length _ _ _) fun j hj => ?_
    rw [splitTo_nth hj]
    exact decide_eq_true getI_lt
  refine ⟨hE, ?_⟩
  rw [joinV_yes hE, splitL_yes h, split_join_to h0 _ (Nat.le_refl _) hr]
  exact Int.emod_eq_of_lt h0 hx

theorem u32s_split {x : Int} {zs : List Int} (h0 : 0 ≤ x) (h1 : x ≤ 4294967295) : U32s (splitL x zs) := by
  intro j
  by_cases h : splitE x zs = 0
  · rw [splitL_yes h]
    by_cases hj : j < zs.length
    · rw [splitTo_nth hj]; exact ⟨getI_lo h0, getI_hi h0 h1⟩
    · have : nth (splitTo x zs zs.length) j = 0 := by unfold nth; simp [List.getD, splitTo_length, Nat.not_lt.1 hj]
      omega
  · rw [splitL_bad h]; show 0 ≤ nth [] j ∧ nth [] j ≤ 4294967295; simp [nth]

theorem neq_zero {a : Int} (h : a ≠ 0) : (a == 0) = false := by rw [beq_eq_false_iff_ne]; exact h

/-- Split's end where nothing is wrong: the numbers of ls. -/
theorem split_ok (x : Int) (a : Option Addr) (cap : Nat) (zs ls : List Int) (w : World) (h0 : 0 ≤ x) (h1 : x ≤ 4294967295) (hz : Row w .i64 a zs) (hE : splitE x zs = 0) (hL : splitL x zs = ls) :
    Calls Try.prog 18 #[.int .u32 x, .slice a zs.length cap] w fun e w' => ∃ a' c', e = .returned (.tuple #[.slice a' ls.length c', .int .i64 0]) ∧ Row w' .u32 a' ls ∧ Below w.heap.size w w' :=
  (split_any x a cap zs w h0 h1 hz).mono fun e w' ⟨a', c', he, hr, hb⟩ => ⟨a', c', by rw [he, hE, hL], by rw [← hL]; exact hr, hb⟩
theorem join_ok (al : Option Addr) (cl : Nat) (ls : List Int) (a : Option Addr) (cap : Nat) (zs : List Int) (y : Int) (w : World) (hl : Row w .u32 al ls) (hu : U32s ls) (hz : Row w .i64 a zs) (hE : joinE zs ls = 0) (hV : joinV zs ls = y) :
    Calls Try.prog 20 #[.slice al ls.length cl, .slice a zs.length cap] w fun e w' => e = .returned (.tuple #[.int .u32 y, .int .i64 0]) ∧ Drw w w' :=
  (join_any al cl ls a cap zs w hl hu hz).mono fun e w' ⟨he, hd⟩ => ⟨by rw [he, hE, hV], hd⟩
theorem ones_eq (x n : Int) (w : World) (h0 : 0 ≤ x) (h1 : x ≤ 4294967295) (h : onesI x = n) :
    Calls Try.prog 13 #[.int .u32 x] w fun e w' => e = .returned (.int .i64 n) ∧ Drw w w' := by
  rw [← h]; exact ones_any x w h0 h1

set_option maxHeartbeats 600000 in
theorem walk_many (x : Int) (al : Option Addr) (cl : Nat) (ls : List Int) (a : Option Addr) (cap : Nat) (zs : List Int) (w : World) (h : 100 < ls.length ∨ 100 < zs.length) :
    Calls Try.prog 7 #[.int .u32 x, .slice al ls.length cl, .slice a zs.length cap] w fun e w' => e = .returned (.bool true) ∧ Below w.heap.size w w' := by
  by_cases h1 : (100 : Int) < ls.length
  · clear h
    go_enter Try.func7, Try.ntmps7
    go_wp2_with fail
    refine (begun_any _).mono ?_
    rintro e w1 ⟨rfl, hb1⟩
    go_wp2_with fail
    go_ret
    exact ⟨rfl, hb1⟩
  · have h2 : (100 : Int) < zs.length := by omega
    clear h
    go_enter Try.func7, Try.ntmps7
    go_wp2_with fail
    refine (begun_any _).mono ?_
    rintro e w1 ⟨rfl, hb1⟩
    go_wp2_with fail
    go_ret
    exact ⟨rfl, hb1⟩

set_option maxHeartbeats 1000000 in
theorem walk_jj (x : Int) (al : Option Addr) (cl : Nat) (ls : List Int) (a : Option Addr) (cap : Nat) (zs : List Int) (w : World) (h0 : 0 ≤ x) (h1 : x ≤ 4294967295)
    (hl : Row w .u32 al ls) (hu : U32s ls) (hz : Row w .i64 a zs) (hn : (ls.length : Int) ≤ 100) (hm : (zs.length : Int) ≤ 100) (hj : joinE zs ls = 0) (hs : splitE x zs = 0) :
    Calls Try.prog 7 #[.int .u32 x, .slice al ls.length cl, .slice a zs.length cap] w fun e w' => e = .returned (.bool true) ∧ Below w.heap.size w w' := by
  have HJ := Lib.hid hj
  have HS := Lib.hid hs
  have hlen : (ls.length : Int) ≤ 9223372036854775807 := by omega
  have hb := joinV_bd zs ls hu
  have hjs := join_split hu hj
  have hones : onesI (joinV zs ls) = onesSum ls ls.length := by
    obtain ⟨hr, hn, hf⟩ := joinE_zero hj
    rw [joinV_yes hj, join_ones hu hr hf, hn]
  obtain ⟨y, hy⟩ : ∃ y, y = joinV zs ls := ⟨_, rfl⟩
  rw [← hy] at hb hjs hones
  have HY := Lib.hid hy.symm
  have HJS := Lib.hid hjs
  have HO := Lib.hid hones
  obtain ⟨y0, y1⟩ := hb
  clear hjs hones hy
  have hsj := split_join h0 hs
  have hus := u32s_split (zs := zs) h0 h1
  obtain ⟨l2, hl2⟩ : ∃ l2, l2 = splitL x zs := ⟨_, rfl⟩
  rw [← hl2] at hsj hus
  have HL2 := Lib.hid hl2.symm
  have HSJ := Lib.hid hsj
  clear hsj hl2
  clear hj hs
  go_enter Try.func7, Try.ntmps7
  go_wp2_with fail
  refine (join_ok _ _ _ _ _ _ _ _ hl hu hz HJ.out HY.out).mono ?_
  rintro e w1 ⟨rfl, hd1⟩
  have HB1 := Lib.hid hd1.new
  clear hd1
  go_wp2_with fail
  refine (split_ok _ _ _ _ _ _ y0 y1 (hz.later HB1.out) HJS.out.1 HJS.out.2).mono ?_
  rintro e w2 ⟨a2, c2, rfl, hr2, hb2⟩
  have HB2 := Lib.hid (below_step HB1.out hb2)
  have HR2 := Lib.hid hr2
  clear hb2 hr2
  go_wp2_with fail
  go_loopw [11, 43] (fun t i wr => ∃ k : Nat, k ≤ ls.length ∧ i = .int .i64 k ∧ t = .int .i64 (onesSum ls k) ∧ Drw w2 wr) (fun _ i _ => ls.length - (intOf i).toNat)
  case atStart => exact ⟨0, Nat.zero_le _, rfl, rfl, Drw.refl _⟩
  case round =>
    obtain ⟨k, hk, rfl, rfl, hd⟩ := hrel
    obtain ⟨o1, o2⟩ := onesSum_bd ls k
    by_cases hlt : k < ls.length
    · obtain ⟨b1, off1, rfl, hbb, hc⟩ := ((hl.later HB2.out).drw hd) k hlt
      obtain ⟨u1, u2⟩ := hu k
      obtain ⟨i1, i2⟩ := onesI_bd (nth ls k)
      have HT := Lib.hid (onesSum_succ ls k)
      go_wp2_with fail
      refine (ones_any _ _ u1 u2).mono ?_
      rintro e w3 ⟨rfl, hd3⟩
      have HD3 := Lib.hid (hd.below w2.heap.size |>.trans (Drw.below hd3 _))
      obtain ⟨m3, rfl⟩ := hd3
      go_wp2_with fail
      go_roundw
      case rel => exact ⟨k + 1, by omega, by go_num, by rw [HT.out], hd.step _⟩
      case measure => simp [intOf]; omega
    · have hkk : k = ls.length := by omega
      subst hkk
      have HB3 := Lib.hid (below_step HB2.out hd.new)
      have HR3 := Lib.hid (HR2.out.later hd.new)
      go_wp2_with fail
      refine (same_yes _ _ _ _ _ _ HR3.out (hl.later HB3.out) hlen).mono ?_
      rintro e w4 ⟨rfl, hd4⟩
      have HB4 := Lib.hid (below_step HB3.out hd4.new)
      clear hd4
      go_wp2_with fail
      refine (ones_eq _ _ _ y0 y1 HO.out).mono ?_
      rintro e w5 ⟨rfl, hd5⟩
      have HB5 := Lib.hid (below_step HB4.out hd5.new)
      clear hd5
      go_wp2_with fail
      refine (split_ok _ _ _ _ _ _ h0 h1 (hz.later HB5.out) HS.out HL2.out).mono ?_
      rintro e w6 ⟨a6, c6, rfl, hr6, hb6⟩
      have HB6 := Lib.hid (below_step HB5.out hb6)
      have HR6 := Lib.hid hr6
      clear hb6 hr6
      go_wp2_with fail
      refine (join_ok _ _ _ _ _ _ _ _ HR6.out hus (hz.later HB6.out) HSJ.out.1 HSJ.out.2).mono ?_
      rintro e w7 ⟨rfl, hd7⟩
      have HB7 := Lib.hid (below_step HB6.out hd7.new)
      clear hd7
      go_wp2_with fail
      refine (begun_any _).mono ?_
      rintro e w8 ⟨rfl, hb8⟩
      have HB8 := Lib.hid (below_step HB7.out hb8)
      clear hb8
      go_wp2_with fail
      go_ret
      exact ⟨rfl, HB8.out⟩

set_option maxHeartbeats 1000000 in
theorem walk_jn (x : Int) (al : Option Addr) (cl : Nat) (ls : List Int) (a : Option Addr) (cap : Nat) (zs : List Int) (w : World) (h0 : 0 ≤ x) (h1 : x ≤ 4294967295)
    (hl : Row w .u32 al ls) (hu : U32s ls) (hz : Row w .i64 a zs) (hn : (ls.length : Int) ≤ 100) (hm : (zs.length : Int) ≤ 100) (hj : joinE zs ls = 0) (hs : splitE x zs ≠ 0) :
    Calls Try.prog 7 #[.int .u32 x, .slice al ls.length cl, .slice a zs.length cap] w fun e w' => e = .returned (.bool true) ∧ Below w.heap.size w w' := by
  have HJ := Lib.hid hj
  have HS := Lib.hid hs
  have hlen : (ls.length : Int) ≤ 9223372036854775807 := by omega
  have es := neq_zero hs
  have hb := joinV_bd zs ls hu
  have hjs := join_split hu hj
  have hones : onesI (joinV zs ls) = onesSum ls ls.length := by
    obtain ⟨hr, hn, hf⟩ := joinE_zero hj
    rw [joinV_yes hj, join_ones hu hr hf, hn]
  obtain ⟨y, hy⟩ : ∃ y, y = joinV zs ls := ⟨_, rfl⟩
  rw [← hy] at hb hjs hones
  have HY := Lib.hid hy.symm
  have HJS := Lib.hid hjs
  have HO := Lib.hid hones
  obtain ⟨y0, y1⟩ := hb
  clear hjs hones hy
  clear hj hs
  go_enter Try.func7, Try.ntmps7
  go_wp2_with fail
  refine (join_ok _ _ _ _ _ _ _ _ hl hu hz HJ.out HY.out).mono ?_
  rintro e w1 ⟨rfl, hd1⟩
  have HB1 := Lib.hid hd1.new
  clear hd1
  go_wp2_with fail
  refine (split_ok _ _ _ _ _ _ y0 y1 (hz.later HB1.out) HJS.out.1 HJS.out.2).mono ?_
  rintro e w2 ⟨a2, c2, rfl, hr2, hb2⟩
  have HB2 := Lib.hid (below_step HB1.out hb2)
  have HR2 := Lib.hid hr2
  clear hb2 hr2
  go_wp2_with fail
  go_loopw [11, 43] (fun t i wr => ∃ k : Nat, k ≤ ls.length ∧ i = .int .i64 k ∧ t = .int .i64 (onesSum ls k) ∧ Drw w2 wr) (fun _ i _ => ls.length - (intOf i).toNat)
  case atStart => exact ⟨0, Nat.zero_le _, rfl, rfl, Drw.refl _⟩
  case round =>
    obtain ⟨k, hk, rfl, rfl, hd⟩ := hrel
    obtain ⟨o1, o2⟩ := onesSum_bd ls k
    by_cases hlt : k < ls.length
    · obtain ⟨b1, off1, rfl, hbb, hc⟩ := ((hl.later HB2.out).drw hd) k hlt
      obtain ⟨u1, u2⟩ := hu k
      obtain ⟨i1, i2⟩ := onesI_bd (nth ls k)
      have HT := Lib.hid (onesSum_succ ls k)
      go_wp2_with fail
      refine (ones_any _ _ u1 u2).mono ?_
      rintro e w3 ⟨rfl, hd3⟩
      have HD3 := Lib.hid (hd.below w2.heap.size |>.trans (Drw.below hd3 _))
      obtain ⟨m3, rfl⟩ := hd3
      go_wp2_with fail
      go_roundw
      case rel => exact ⟨k + 1, by omega, by go_num, by rw [HT.out], hd.step _⟩
      case measure => simp [intOf]; omega
    · have hkk : k = ls.length := by omega
      subst hkk
      have HB3 := Lib.hid (below_step HB2.out hd.new)
      have HR3 := Lib.hid (HR2.out.later hd.new)
      go_wp2_with fail
      refine (same_yes _ _ _ _ _ _ HR3.out (hl.later HB3.out) hlen).mono ?_
      rintro e w4 ⟨rfl, hd4⟩
      have HB4 := Lib.hid (below_step HB3.out hd4.new)
      clear hd4
      go_wp2_with fail
      refine (ones_eq _ _ _ y0 y1 HO.out).mono ?_
      rintro e w5 ⟨rfl, hd5⟩
      have HB5 := Lib.hid (below_step HB4.out hd5.new)
      clear hd5
      go_wp2_with fail
      refine (split_any _ _ _ _ _ h0 h1 (hz.later HB5.out)).mono ?_
      rintro e w6 ⟨a6, c6, rfl, hr6, hb6⟩
      have HB6 := Lib.hid (below_step HB5.out hb6)
      clear hb6 hr6
      go_wp2_with fail
      refine (begun_any _).mono ?_
      rintro e w8 ⟨rfl, hb8⟩
      have HB8 := Lib.hid (below_step HB6.out hb8)
      clear hb8
      go_wp2_with fail
      go_ret
      exact ⟨rfl, HB8.out⟩

set_option maxHeartbeats 1000000 in
theorem walk_nj (x : Int) (al : Option Addr) (cl : Nat) (ls : List Int) (a : Option Addr) (cap : Nat) (zs : List Int) (w : World) (h0 : 0 ≤ x) (h1 : x ≤ 4294967295)
    (hl : Row w .u32 al ls) (hu : U32s ls) (hz : Row w .i64 a zs) (hn : (ls.length : Int) ≤ 100) (hm : (zs.length : Int) ≤ 100) (hj : joinE zs ls ≠ 0) (hs : splitE x zs = 0) :
    Calls Try.prog 7 #[.int .u32 x, .slice al ls.length cl, .slice a zs.length cap] w fun e w' => e = .returned (.bool true) ∧ Below w.heap.size w w' := by
  have HJ := Lib.hid hj
  have HS := Lib.hid hs
  have hlen : (ls.length : Int) ≤ 9223372036854775807 := by omega
  have ej := neq_zero hj
  have hsj := split_join h0 hs
  have hus := u32s_split (zs := zs) h0 h1
  obtain ⟨l2, hl2⟩ : ∃ l2, l2 = splitL x zs := ⟨_, rfl⟩
  rw [← hl2] at hsj hus
  have HL2 := Lib.hid hl2.symm
  have HSJ := Lib.hid hsj
  clear hsj hl2
  clear hj hs
  go_enter Try.func7, Try.ntmps7
  go_wp2_with fail
  refine (join_any _ _ _ _ _ _ _ hl hu hz).mono ?_
  rintro e w5 ⟨rfl, hd5⟩
  have HB5 := Lib.hid hd5.new
  clear hd5
  go_wp2_with fail
  refine (split_ok _ _ _ _ _ _ h0 h1 (hz.later HB5.out) HS.out HL2.out).mono ?_
  rintro e w6 ⟨a6, c6, rfl, hr6, hb6⟩
  have HB6 := Lib.hid (below_step HB5.out hb6)
  have HR6 := Lib.hid hr6
  clear hb6 hr6
  go_wp2_with fail
  refine (join_ok _ _ _ _ _ _ _ _ HR6.out hus (hz.later HB6.out) HSJ.out.1 HSJ.out.2).mono ?_
  rintro e w7 ⟨rfl, hd7⟩
  have HB7 := Lib.hid (below_step HB6.out hd7.new)
  clear hd7
  go_wp2_with fail
  refine (begun_any _).mono ?_
  rintro e w8 ⟨rfl, hb8⟩
  have HB8 := Lib.hid (below_step HB7.out hb8)
  clear hb8
  go_wp2_with fail
  go_ret
  exact ⟨rfl, HB8.out⟩

set_option maxHeartbeats 1000000 in
theorem walk_nn (x : Int) (al : Option Addr) (cl : Nat) (ls : List Int) (a : Option Addr) (cap : Nat) (zs : List Int) (w : World) (h0 : 0 ≤ x) (h1 : x ≤ 4294967295)
    (hl : Row w .u32 al ls) (hu : U32s ls) (hz : Row w .i64 a zs) (hn : (ls.length : Int) ≤ 100) (hm : (zs.length : Int) ≤ 100) (hj : joinE zs ls ≠ 0) (hs : splitE x zs ≠ 0) :
    Calls Try.prog 7 #[.int .u32 x, .slice al ls.length cl, .slice a zs.length cap] w fun e w' => e = .returned (.bool true) ∧ Below w.heap.size w w' := by
  have HJ := Lib.hid hj
  have HS := Lib.hid hs
  have hlen : (ls.length : Int) ≤ 9223372036854775807 := by omega
  have ej := neq_zero hj
  have es := neq_zero hs
  clear hj hs
  go_enter Try.func7, Try.ntmps7
  go_wp2_with fail
  refine (join_any _ _ _ _ _ _ _ hl hu hz).mono ?_
  rintro e w5 ⟨rfl, hd5⟩
  have HB5 := Lib.hid hd5.new
  clear hd5
  go_wp2_with fail
  refine (split_any _ _ _ _ _ h0 h1 (hz.later HB5.out)).mono ?_
  rintro e w6 ⟨a6, c6, rfl, hr6, hb6⟩
  have HB6 := Lib.hid (below_step HB5.out hb6)
  clear hb6 hr6
  go_wp2_with fail
  refine (begun_any _).mono ?_
  rintro e w8 ⟨rfl, hb8⟩
  have HB8 := Lib.hid (below_step HB6.out hb8)
  clear hb8
  go_wp2_with fail
  go_ret
  exact ⟨rfl, HB8.out⟩

theorem walk (a0 : Int) (a1 : Option Addr) (cap1 : Nat) (z1 : List Int) (a2 : Option Addr) (cap2 : Nat) (z2 : List Int) (w : World) (w0 : (Lit.int .u32 a0).wf = true)
    (r1 : Row w .u32 a1 z1) (m1 : z1.length ≤ maxLen) (f1 : ∀ n ∈ z1, (Lit.int .u32 n).wf = true) (r2 : Row w .i64 a2 z2) (m2 : z2.length ≤ maxLen) (f2 : ∀ n ∈ z2, (Lit.int .i64 n).wf = true) :
    Calls Try.prog 7 #[.int .u32 a0, .slice a1 z1.length cap1, .slice a2 z2.length cap2] w fun e w' => e = .returned (.bool true) ∧ Below w.heap.size w w' := by
  obtain ⟨h0, h1⟩ := bounds_u32 w0
  have hu := u32s_of f1
  by_cases h : 100 < z1.length ∨ 100 < z2.length
  · exact walk_many a0 a1 cap1 z1 a2 cap2 z2 w h
  · by_cases hj : joinE z2 z1 = 0
    · by_cases hs : splitE a0 z2 = 0
      · exact walk_jj a0 a1 cap1 z1 a2 cap2 z2 w h0 h1 r1 hu r2 (by omega) (by omega) hj hs
      · exact walk_jn a0 a1 cap1 z1 a2 cap2 z2 w h0 h1 r1 hu r2 (by omega) (by omega) hj hs
    · by_cases hs : splitE a0 z2 = 0
      · exact walk_nj a0 a1 cap1 z1 a2 cap2 z2 w h0 h1 r1 hu r2 (by omega) (by omega) hj hs
      · exact walk_nn a0 a1 cap1 z1 a2 cap2 z2 w h0 h1 r1 hu r2 (by omega) (by omega) hj hs

/-! ### The row -/
set_option maxRecDepth 100000 in
theorem lifted (os : Os) (started : os.Started) (H : Type) (enc : TypeId × Value → H) :
    ReturnsInHanded {} Try.checked os 7 .any (Rows.packBackSpec.pre6 enc Try.prog Try.f7 Rows.packBackRow.domain false) (Rows.packBackSpec.post enc Try.prog Try.f7 false true false false) := by
  refine returnsInHanded_of_change (C := Try.checked) own started (by kernel_rfl) Try.func7
    (ChangeSpec.witness6 (enc := enc) (C := Try.checked) false ⟨#[], #[.int .u32 0, .slice none 0 0, .slice none 0 0], []⟩ 8 (by kernel_rfl) (by kernel_rfl) (by kernel_rfl) (by kernel_rfl)) ?_
  intro W base args ds gs before hval0 hW hcnd _
  have hval : ∀ (j : Nat) t v, Try.f7.params[j]? = some t → args[j]? = some v → Value.okWide Try.prog W .any base t v := hval0
  have hW' := hW
  obtain ⟨p, q, hA0, hV, rfl, hfz, hnd⟩ := hW
  have hA : DataW.TrodAll enc Try.prog W 0 (fun _ => true) true Try.f7.params.toList args.toList ds p := hA0
  rw [Try.params7] at hA hval
  obtain ⟨v0, vs0, d0, ds0, p0, q0, hargs, rfl, rfl, h0, r0⟩ := trodAll_cons hA
  obtain ⟨v1, vs1, d1, ds1, p1, q1, rfl, rfl, rfl, h1, r1⟩ := trodAll_cons r0
  obtain ⟨v2, vs2, d2, ds2, p2, q2, rfl, rfl, rfl, h2, r2⟩ := trodAll_cons r1
  obtain ⟨rfl, rfl, rfl⟩ := trodAll_nil r2
  obtain rfl : args = #[v0, v1, v2] := by cases args; simp_all
  obtain ⟨rfl, rfl⟩ := trodVars_none hV
  have k0 := h0
  have lt0 : ∀ x ∈ p0, x.block < W.heap.size := by obtain ⟨m, hm⟩ := k0; exact DataW.trod_lt m _ _ _ hm
  obtain ⟨a0, rfl, hd0, hp0, w0⟩ := open_int Try.underlying22 (hval 0 22 v0 rfl rfl) h0
  have k1 := h1
  have lt1 : ∀ x ∈ p1, x.block < W.heap.size := by obtain ⟨m, hm⟩ := k1; exact DataW.trod_lt m _ _ _ hm
  obtain ⟨a1, len1, cap1, rfl⟩ := okWide_slice Try.underlying36 (hval 1 36 v1 rfl rfl)
  obtain ⟨z1, hl1, ro1, f1, m1⟩ : ∃ zs : List Int, len1 = zs.length ∧ Row W .u32 a1 zs ∧ (∀ n ∈ zs, (Lit.int .u32 n).wf = true) ∧ len1 ≤ maxLen := by
    obtain ⟨fuel, hf⟩ := h1
    rcases open_ints Try.underlying36 Try.underlying22 (by kernel_rfl) hf with ⟨hcs, _⟩ | ⟨x, l, c, zs, hcs, _, hl, hm, hz, _, hcell, hwz⟩
    · simp [Value.cells] at hcs
      obtain ⟨rfl, rfl, rfl⟩ := hcs
      exact ⟨[], rfl, Row.nil _ _ _, (fun n h => by simp at h), Nat.zero_le _⟩
    · simp [Value.cells] at hcs
      obtain ⟨rfl, rfl, rfl⟩ := hcs
      exact row_open hl hm (by simpa using hz) hcell hwz
  subst hl1
  have k2 := h2
  have lt2 : ∀ x ∈ p2, x.block < W.heap.size := by obtain ⟨m, hm⟩ := k2; exact DataW.trod_lt m _ _ _ hm
  obtain ⟨a2, len2, cap2, rfl⟩ := okWide_slice Try.underlying37 (hval 2 37 v2 rfl rfl)
  obtain ⟨z2, hl2, ro2, f2, m2⟩ : ∃ zs : List Int, len2 = zs.length ∧ Row W .i64 a2 zs ∧ (∀ n ∈ zs, (Lit.int .i64 n).wf = true) ∧ len2 ≤ maxLen := by
    obtain ⟨fuel, hf⟩ := h2
    rcases open_ints Try.underlying37 Try.underlying3 (by kernel_rfl) hf with ⟨hcs, _⟩ | ⟨x, l, c, zs, hcs, _, hl, hm, hz, _, hcell, hwz⟩
    · simp [Value.cells] at hcs
      obtain ⟨rfl, rfl, rfl⟩ := hcs
      exact ⟨[], rfl, Row.nil _ _ _, (fun n h => by simp at h), Nat.zero_le _⟩
    · simp [Value.cells] at hcs
      obtain ⟨rfl, rfl, rfl⟩ := hcs
      exact row_open hl hm (by simpa using hz) hcell hwz
  subst hl2
  clear hA0 hval0
  refine (walk a0 a1 cap1 z1 a2 cap2 z2 W w0 ro1 m1 f1 ro2 m2 f2).mono fun e W' ⟨he, bel⟩ => ?_
  subst he
  exact ⟨_, rfl, _, _, _, [], _, [], hW', trodAll_mk1 (shut_bool Try.underlying4 _), (trodAll_cons_mk (Below.trod laidOut (by kernel_rfl) (of_decide_eq_true (by kernel_rfl)) k0 bel lt0) (trodAll_cons_mk (Below.trod laidOut (by kernel_rfl) (of_decide_eq_true (by kernel_rfl)) k1 bel lt1) (trodAll_cons_mk (Below.trod laidOut (by kernel_rfl) (of_decide_eq_true (by kernel_rfl)) k2 bel lt2) trodAll_mk0))), rfl, bel.frame _, fun h => by cases h⟩

theorem over : Rows.packBackRow.holds Try.pinned (OpenSpec.ofChange Rows.packBackSpec) :=
  OpenClaim.holds_of_wide 7 Try.f7 rfl rfl rfl rfl rfl rfl rfl ⟨rfl, rfl, rfl, rfl, rfl⟩ rfl rfl rfl rfl rfl (by kernel_rfl) Try.func7 (by kernel_rfl)
    (of_decide_eq_true (by kernel_rfl)) (by unfold Func.isWrapper; first | (rw [if_pos (by decide +kernel)]; kernel_rfl) | (rw [if_neg (by decide +kernel)]; exact ⟨rfl, rfl⟩))
    (fun os started H enc _ => lifted os started H enc)

theorem proved : Rows.PackBackSaid := over
#print axioms proved
end Go.Proofs.Ytmhehnckjmoikaa.packBack
