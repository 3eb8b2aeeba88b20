/-
  What Join returns: the program's, and the document's.
-/
import Derived.Test.YtmhehnckjmoikaaPackRows
namespace Go.Proofs.Ytmhehnckjmoikaa.Pk
open Go.RowKit
set_option linter.unusedVariables false
set_option linter.unusedSimpArgs false

theorem neq_len {m n : Nat} (h : m ≠ n) : ((m : Int) != (n : Int)) = true := by rw [bne_iff_ne]; omega
theorem eq_len {m n : Nat} (h : m = n) : ((m : Int) != (n : Int)) = false := by subst h; simp

set_option maxHeartbeats 400000 in
theorem join_wide (al : Option Addr) (nl cl : Nat) (a : Option Addr) (cap : Nat) (zs : List Int) (w : World) (hz : Row w .i64 a zs) (hr : ¬ rightTo zs zs.length) :
    Calls Try.prog 20 #[.slice al nl cl, .slice a zs.length cap] w fun e w' => e = .returned (.tuple #[.int .u32 0, .int .i64 2]) ∧ w = w' := by
  have HR : Hid (¬ rightTo zs zs.length) := hr
  clear hr
  go_enter Try.func20, Try.ntmps20
  go_wp2_with (go_at_call 27; refine (together_no _ _ _ _ hz HR.out).mono ?_; rintro e w' ⟨rfl, rfl⟩)
  go_ret2
  exact ⟨rfl, rfl⟩

set_option maxHeartbeats 400000 in
theorem join_many (al : Option Addr) (nl cl : Nat) (a : Option Addr) (cap : Nat) (zs : List Int) (w : World) (hz : Row w .i64 a zs) (hr : rightTo zs zs.length) (hn : nl ≠ zs.length) :
    Calls Try.prog 20 #[.slice al nl cl, .slice a zs.length cap] w fun e w' => e = .returned (.tuple #[.int .u32 0, .int .i64 2]) ∧ w = w' := by
  have hne := neq_len hn
  clear hn
  go_enter Try.func20, Try.ntmps20
  go_wp2_with (go_at_call 27; refine (together_yes _ _ _ _ hz hr).mono ?_; rintro e w' ⟨rfl, rfl⟩)
  go_ret2
  exact ⟨rfl, rfl⟩

set_option maxHeartbeats 600000 in
theorem join_yes (al : Option Addr) (cl : Nat) (ls : List Int) (a : Option Addr) (cap : Nat) (zs : List Int) (w : World) (hl : Row w .u32 al ls) (hu : U32s ls) (hz : Row w .i64 a zs) (hr : rightTo zs zs.length) (hn : ls.length = zs.length) (hf : fitsTo zs ls zs.length) :
    Calls Try.prog 20 #[.slice al ls.length cl, .slice a zs.length cap] w fun e w' => e = .returned (.tuple #[.int .u32 (joinTo zs ls zs.length), .int .i64 0]) ∧ Drw w w' := by
  have hne := eq_len hn
  have HN : Hid (ls.length = zs.length) := hn
  have hn1 : zs.length ≤ ls.length := by omega
  have h32 := rightTo_bd hr
  clear hn
  go_enter Try.func20, Try.ntmps20
  go_wp2_with (go_at_call 27; refine (together_yes _ _ _ _ hz hr).mono ?_; rintro e w' ⟨rfl, rfl⟩)
  go_loopw [8, 9, 30] (fun x t i wr => ∃ k : Nat, k ≤ zs.length ∧ i = .int .i64 k ∧ t = .int .i64 (sumTo zs k) ∧ x = .int .u32 (joinTo zs ls k) ∧ Drw w wr) (fun _ _ i _ => zs.length - (intOf i).toNat)
  case atStart => exact ⟨0, Nat.zero_le _, rfl, rfl, rfl, Drw.refl _⟩
  case round =>
    obtain ⟨k, hk, rfl, rfl, rfl, hd⟩ := hrel
    have hz' := hz.drw hd
    have hl' := hl.drw hd
    by_cases hlt : k < zs.length
    · obtain ⟨b, off, rfl, hb, hc⟩ := hz' k hlt
      obtain ⟨b2, off2, rfl, hb2, hc2⟩ := hl' k (by omega)
      obtain ⟨h1, h2⟩ := hr k hlt
      obtain ⟨h3, h4⟩ := rightTo_bd (rightTo_mono hr (Nat.le_of_lt hlt))
      have HP : Hid (pieceB (sumTo zs k) (nth zs k) = true) := rightTo_piece (rightTo_mono hr hlt)
      have HF : Hid (fitB (nth ls k) (nth zs k) = true) := hf k hlt
      obtain ⟨j1, j2⟩ := joinTo_32 (rightTo_mono hr (Nat.le_of_lt hlt)) hu (fitsTo_mono hf (Nat.le_of_lt hlt))
      obtain ⟨u1, u2⟩ := hu k
      have HJ : Hid (putI (joinTo zs ls k) (sumTo zs k) (nth zs k) (nth ls k) = joinTo zs ls (k + 1)) := join_put (rightTo_mono hr (Nat.le_of_lt hlt)) hu (fitsTo_mono hf (Nat.le_of_lt hlt))
      have HS : Hid (sumTo zs (k + 1) = sumTo zs k + nth zs k) := sumTo_succ zs k
      go_wp2_with (go_at_call 15; refine (put_yes _ _ _ _ _ j1 j2 HP.out u1 u2 HF.out).mono ?_; rintro e w' ⟨rfl, m', rfl⟩)
      go_roundw
      case rel => exact ⟨k + 1, by omega, by go_num, by rw [HS.out], by rw [← HJ.out], hd.step _⟩
      case measure => simp [intOf]; omega
    · have e : k = zs.length := by omega
      have HE : Hid (joinTo zs ls k = joinTo zs ls zs.length) := by rw [e]; exact rfl
      clear e
      go_wp2
      go_ret2
      exact ⟨ret_put HE.out, hd⟩

set_option maxHeartbeats 600000 in
theorem join_big (al : Option Addr) (cl : Nat) (ls : List Int) (a : Option Addr) (cap : Nat) (zs : List Int) (w : World) (hl : Row w .u32 al ls) (hu : U32s ls) (hz : Row w .i64 a zs) (hr : rightTo zs zs.length) (hn : ls.length = zs.length) (hf : ¬ fitsTo zs ls zs.length) :
    Calls Try.prog 20 #[.slice al ls.length cl, .slice a zs.length cap] w fun e w' => e = .returned (.tuple #[.int .u32 0, .int .i64 15]) ∧ Drw w w' := by
  have hne := eq_len hn
  have HN : Hid (ls.length = zs.length) := hn
  have HX : Hid (¬ fitsTo zs ls zs.length) := hf
  have hn1 : zs.length ≤ ls.length := by omega
  have h32 := rightTo_bd hr
  clear hn hf
  go_enter Try.func20, Try.ntmps20
  go_wp2_with (go_at_call 27; refine (together_yes _ _ _ _ hz hr).mono ?_; rintro e w' ⟨rfl, rfl⟩)
  go_loopw [8, 9, 30] (fun x t i wr => ∃ k : Nat, k ≤ zs.length ∧ i = .int .i64 k ∧ t = .int .i64 (sumTo zs k) ∧ x = .int .u32 (joinTo zs ls k) ∧ Drw w wr ∧ fitsTo zs ls k) (fun _ _ i _ => zs.length - (intOf i).toNat)
  case atStart => exact ⟨0, Nat.zero_le _, rfl, rfl, rfl, Drw.refl _, fitsTo_zero _ _⟩
  case round =>
    obtain ⟨k, hk, rfl, rfl, rfl, hd, hf⟩ := hrel
    have hz' := hz.drw hd
    have hl' := hl.drw hd
    have hlt : k < zs.length := by
      by_cases h : k < zs.length
      · exact h
      · exact absurd (show fitsTo zs ls zs.length by rw [show zs.length = k by omega]; exact hf) HX.out
    obtain ⟨b, off, rfl, hb, hc⟩ := hz' k hlt
    obtain ⟨b2, off2, rfl, hb2, hc2⟩ := hl' k (by omega)
    obtain ⟨h1, h2⟩ := hr k hlt
    obtain ⟨h3, h4⟩ := rightTo_bd (rightTo_mono hr (Nat.le_of_lt hlt))
    have HP : Hid (pieceB (sumTo zs k) (nth zs k) = true) := rightTo_piece (rightTo_mono hr hlt)
    obtain ⟨j1, j2⟩ := joinTo_32 (rightTo_mono hr (Nat.le_of_lt hlt)) hu hf
    obtain ⟨u1, u2⟩ := hu k
    by_cases hfit : fitB (nth ls k) (nth zs k) = true
    · have HF : Hid (fitB (nth ls k) (nth zs k) = true) := hfit
      have hf' := fitsTo_succ hf hfit
      have HJ : Hid (putI (joinTo zs ls k) (sumTo zs k) (nth zs k) (nth ls k) = joinTo zs ls (k + 1)) := join_put (rightTo_mono hr (Nat.le_of_lt hlt)) hu hf
      have HS : Hid (sumTo zs (k + 1) = sumTo zs k + nth zs k) := sumTo_succ zs k
      clear hfit
      go_wp2_with (go_at_call 15; refine (put_yes _ _ _ _ _ j1 j2 HP.out u1 u2 HF.out).mono ?_; rintro e w' ⟨rfl, m', rfl⟩)
      go_roundw
      case rel => exact ⟨k + 1, by omega, by go_num, by rw [HS.out], by rw [← HJ.out], hd.step _, hf'⟩
      case measure => simp [intOf]; omega
    · have HF : Hid (fitB (nth ls k) (nth zs k) = false) := Bool.eq_false_iff.2 hfit
      clear hfit
      go_wp2_with (go_at_call 15; refine (put_big _ _ _ _ _ HP.out u1 u2 HF.out).mono ?_; rintro e w' ⟨rfl, rfl⟩)
      go_ret2
      exact ⟨rfl, hd⟩

/-! ### The document's -/
theorem refFits_yes (v n : Int) (w : World) (h0 : 0 ≤ v) (h1 : v ≤ 4294967295) (hlo : -9223372036854775808 ≤ n) (hhi : n ≤ 9223372036854775807) (hf : fitB v n = true) :
    Calls Try.prog 12 #[.int .u32 v, .int .i64 n] w fun e w' => e = .returned (.bool true) ∧ w = w' := by
  rw [← hf]; exact refFits_any v n w h0 h1 hlo hhi
theorem refFits_not (v n : Int) (w : World) (h0 : 0 ≤ v) (h1 : v ≤ 4294967295) (hlo : -9223372036854775808 ≤ n) (hhi : n ≤ 9223372036854775807) (hf : fitB v n = false) :
    Calls Try.prog 12 #[.int .u32 v, .int .i64 n] w fun e w' => e = .returned (.bool false) ∧ w = w' := by
  rw [← hf]; exact refFits_any v n w h0 h1 hlo hhi

set_option maxHeartbeats 400000 in
theorem refJoin_wide (al : Option Addr) (nl cl : Nat) (a : Option Addr) (cap : Nat) (zs : List Int) (w : World) (hz : Row w .i64 a zs) (hlen : (zs.length : Int) ≤ 9223372036854775807) (hr : ¬ rightTo zs zs.length) :
    Calls Try.prog 21 #[.slice al nl cl, .slice a zs.length cap] w fun e w' => e = .returned (.tuple #[.int .u32 0, .int .i64 2]) ∧ w = w' := by
  have HR : Hid (¬ rightTo zs zs.length) := hr
  clear hr
  go_enter Try.func21, Try.ntmps21
  go_wp2_with (go_at_call 28; refine (right_no _ _ _ _ hz hlen HR.out).mono ?_; rintro e w' ⟨rfl, rfl⟩)
  go_ret2
  exact ⟨rfl, rfl⟩

set_option maxHeartbeats 400000 in
theorem refJoin_many (al : Option Addr) (nl cl : Nat) (a : Option Addr) (cap : Nat) (zs : List Int) (w : World) (hz : Row w .i64 a zs) (hr : rightTo zs zs.length) (hn : nl ≠ zs.length) :
    Calls Try.prog 21 #[.slice al nl cl, .slice a zs.length cap] w fun e w' => e = .returned (.tuple #[.int .u32 0, .int .i64 2]) ∧ w = w' := by
  have hne := neq_len hn
  clear hn
  go_enter Try.func21, Try.ntmps21
  go_wp2_with (go_at_call 28; refine (right_yes _ _ _ _ hz hr).mono ?_; rintro e w' ⟨rfl, rfl⟩)
  go_ret2
  exact ⟨rfl, rfl⟩

set_option maxHeartbeats 600000 in
theorem refJoin_yes (al : Option Addr) (cl : Nat) (ls : List Int) (a : Option Addr) (cap : Nat) (zs : List Int) (w : World) (hl : Row w .u32 al ls) (hu : U32s ls) (hz : Row w .i64 a zs) (hr : rightTo zs zs.length) (hn : ls.length = zs.length) (hf : fitsTo zs ls zs.length) :
    Calls Try.prog 21 #[.slice al ls.length cl, .slice a zs.length cap] w fun e w' => e = .returned (.tuple #[.int .u32 (joinTo zs ls zs.length), .int .i64 0]) ∧ Drw w w' := by
  have hne := eq_len hn
  have HN : Hid (ls.length = zs.length) := hn
  have hn1 : zs.length ≤ ls.length := by omega
  have hn2 : ls.length ≤ zs.length := by omega
  have h32 := rightTo_bd hr
  clear hn
  go_enter Try.func21, Try.ntmps21
  go_wp2_with (go_at_call 28; refine (right_yes _ _ _ _ hz hr).mono ?_; rintro e w' ⟨rfl, rfl⟩)
  go_loopw [6, 7, 8] (fun t x i wr => ∃ k : Nat, k ≤ zs.length ∧ i = .int .i64 k ∧ t = .int .i64 (sumTo zs k) ∧ x = .int .u64 (joinTo zs ls k) ∧ Drw w wr) (fun _ _ i _ => zs.length - (intOf i).toNat)
  case atStart => exact ⟨0, Nat.zero_le _, rfl, rfl, rfl, Drw.refl _⟩
  case round =>
    obtain ⟨k, hk, rfl, rfl, rfl, hd⟩ := hrel
    have hz' := hz.drw hd
    have hl' := hl.drw hd
    obtain ⟨j1, j2⟩ := joinTo_32 (rightTo_mono hr hk) hu (fitsTo_mono hf hk)
    by_cases hlt : k < zs.length
    · have hlt2 : k < ls.length := by omega
      obtain ⟨b, off, rfl, hb, hc⟩ := hz' k hlt
      obtain ⟨b2, off2, rfl, hb2, hc2⟩ := hl' k hlt2
      obtain ⟨h1, h2⟩ := hr k hlt
      obtain ⟨h3, h4⟩ := rightTo_bd (rightTo_mono hr (Nat.le_of_lt hlt))
      have HF : Hid (fitB (nth ls k) (nth zs k) = true) := hf k hlt
      obtain ⟨u1, u2⟩ := hu k
      have hp32 : pw32 (sumTo zs k) = pw (sumTo zs k) := pw32_le (by omega)
      have HJ : Hid (joinTo zs ls k + nth ls k * pw32 (sumTo zs k) = joinTo zs ls (k + 1)) := by
        show _ = _
        rw [hp32]; rfl
      obtain ⟨j3, j4⟩ := joinTo_32 (rightTo_mono hr hlt) hu (fitsTo_mono hf hlt)
      rw [← HJ.out] at j3 j4
      have j5 : 0 ≤ nth ls k * pw32 (sumTo zs k) := Int.mul_nonneg u1 (by have := pw32_bd (sumTo zs k); omega)
      have HS : Hid (sumTo zs (k + 1) = sumTo zs k + nth zs k) := sumTo_succ zs k
      clear hp32
      have hb1 : -9223372036854775808 ≤ sumTo zs k := by omega
      have hb2 : sumTo zs k ≤ 9223372036854775807 := by omega
      go_wp2
      go_quiet ((go_at_call 12; exact quiet_eq (refFits_yes _ _ _ u1 u2 (by omega) (by omega) HF.out)))
      have hd1 : Drw w (wr.drewN nq) := hd.step nq
      have hc1 : (wr.drewN nq).cell? ⟨b2, off2 + k, none⟩ = some (.int .u32 (nth ls k)) := hc2
      have hc3 : (wr.drewN nq).cell? ⟨b, off + k, none⟩ = some (.int .i64 (nth zs k)) := hc
      generalize wr.drewN nq = W1 at *
      go_wp2
      have hw1 : IntKind.u64.wrap (nth ls k) = nth ls k := by rw [IntKind.wrap_u64]; omega
      have hw2 : IntKind.u64.wrap (nth ls k * pw32 (sumTo zs k)) = nth ls k * pw32 (sumTo zs k) := by rw [IntKind.wrap_u64]; omega
      have hw3 : IntKind.u64.wrap (joinTo zs ls k + nth ls k * pw32 (sumTo zs k)) = joinTo zs ls k + nth ls k * pw32 (sumTo zs k) := by rw [IntKind.wrap_u64]; omega
      go_quiet ((go_at_call 25; exact quiet_eq (power_any _ _ hb1 hb2)))
      clear hw1 hw2 hw3
      go_wp2
      go_roundw
      case rel => exact ⟨k + 1, by omega, by go_num, by rw [HS.out], by rw [← HJ.out], hd1.step _⟩
      case measure => simp [intOf]; omega
    · have e : k = zs.length := by omega
      have HE : Hid (joinTo zs ls k = joinTo zs ls zs.length) := by rw [e]; exact rfl
      clear e
      go_wp2
      go_ret2
      exact ⟨ret_put HE.out, hd⟩

set_option maxHeartbeats 600000 in
theorem refJoin_big (al : Option Addr) (cl : Nat) (ls : List Int) (a : Option Addr) (cap : Nat) (zs : List Int) (w : World) (hl : Row w .u32 al ls) (hu : U32s ls) (hz : Row w .i64 a zs) (hr : rightTo zs zs.length) (hn : ls.length = zs.length) (hf : ¬ fitsTo zs ls zs.length) :
    Calls Try.prog 21 #[.slice al ls.length cl, .slice a zs.length cap] w fun e w' => e = .returned (.tuple #[.int .u32 0, .int .i64 15]) ∧ Drw w w' := by
  have hne := eq_len hn
  have HX : Hid (¬ fitsTo zs ls zs.length) := hf
  have hn1 : zs.length ≤ ls.length := by omega
  have hn2 : ls.length ≤ zs.length := by omega
  have h32 := rightTo_bd hr
  clear hn hf
  go_enter Try.func21, Try.ntmps21
  go_wp2_with (go_at_call 28; refine (right_yes _ _ _ _ hz hr).mono ?_; rintro e w' ⟨rfl, rfl⟩)
  go_loopw [6, 7, 8] (fun t x i wr => ∃ k : Nat, k ≤ zs.length ∧ i = .int .i64 k ∧ t = .int .i64 (sumTo zs k) ∧ x = .int .u64 (joinTo zs ls k) ∧ Drw w wr ∧ fitsTo zs ls k) (fun _ _ i _ => zs.length - (intOf i).toNat)
  case atStart => exact ⟨0, Nat.zero_le _, rfl, rfl, rfl, Drw.refl _, fitsTo_zero _ _⟩
  case round =>
    obtain ⟨k, hk, rfl, rfl, rfl, hd, hf⟩ := hrel
    have hz' := hz.drw hd
    have hl' := hl.drw hd
    have hlt : k < zs.length := by
      by_cases h : k < zs.length
      · exact h
      · exact absurd (show fitsTo zs ls zs.length by rw [show zs.length = k by omega]; exact hf) HX.out
    obtain ⟨j1, j2⟩ := joinTo_32 (rightTo_mono hr hk) hu hf
    have hlt2 : k < ls.length := by omega
    obtain ⟨b, off, rfl, hb, hc⟩ := hz' k hlt
    obtain ⟨b2, off2, rfl, hb2, hc2⟩ := hl' k hlt2
    obtain ⟨h1, h2⟩ := hr k hlt
    obtain ⟨h3, h4⟩ := rightTo_bd (rightTo_mono hr (Nat.le_of_lt hlt))
    obtain ⟨u1, u2⟩ := hu k
    by_cases hfit : fitB (nth ls k) (nth zs k) = true
    · have HF : Hid (fitB (nth ls k) (nth zs k) = true) := hfit
      have hf' := fitsTo_succ hf hfit
      have hp32 : pw32 (sumTo zs k) = pw (sumTo zs k) := pw32_le (by omega)
      have HJ : Hid (joinTo zs ls k + nth ls k * pw32 (sumTo zs k) = joinTo zs ls (k + 1)) := by
        show _ = _
        rw [hp32]; rfl
      obtain ⟨j3, j4⟩ := joinTo_32 (rightTo_mono hr hlt) hu hf'
      rw [← HJ.out] at j3 j4
      have j5 : 0 ≤ nth ls k * pw32 (sumTo zs k) := Int.mul_nonneg u1 (by have := pw32_bd (sumTo zs k); omega)
      have HS : Hid (sumTo zs (k + 1) = sumTo zs k + nth zs k) := sumTo_succ zs k
      clear hp32 hfit
      have hb1 : -9223372036854775808 ≤ sumTo zs k := by omega
      have hb2 : sumTo zs k ≤ 9223372036854775807 := by omega
      go_wp2
      go_quiet ((go_at_call 12; exact quiet_eq (refFits_yes _ _ _ u1 u2 (by omega) (by omega) HF.out)))
      have hd1 : Drw w (wr.drewN nq) := hd.step nq
      have hc1 : (wr.drewN nq).cell? ⟨b2, off2 + k, none⟩ = some (.int .u32 (nth ls k)) := hc2
      have hc3 : (wr.drewN nq).cell? ⟨b, off + k, none⟩ = some (.int .i64 (nth zs k)) := hc
      generalize wr.drewN nq = W1 at *
      go_wp2
      have hw1 : IntKind.u64.wrap (nth ls k) = nth ls k := by rw [IntKind.wrap_u64]; omega
      have hw2 : IntKind.u64.wrap (nth ls k * pw32 (sumTo zs k)) = nth ls k * pw32 (sumTo zs k) := by rw [IntKind.wrap_u64]; omega
      have hw3 : IntKind.u64.wrap (joinTo zs ls k + nth ls k * pw32 (sumTo zs k)) = joinTo zs ls k + nth ls k * pw32 (sumTo zs k) := by rw [IntKind.wrap_u64]; omega
      go_quiet ((go_at_call 25; exact quiet_eq (power_any _ _ hb1 hb2)))
      clear hw1 hw2 hw3
      go_wp2
      go_roundw
      case rel => exact ⟨k + 1, by omega, by go_num, by rw [HS.out], by rw [← HJ.out], hd1.step _, hf'⟩
      case measure => simp [intOf]; omega
    · have HF : Hid (fitB (nth ls k) (nth zs k) = false) := Bool.eq_false_iff.2 hfit
      clear hfit
      go_wp2
      go_quiet ((go_at_call 12; exact quiet_eq (refFits_not _ _ _ u1 u2 (by omega) (by omega) HF.out)))
      go_wp2
      go_ret2
      exact ⟨rfl, hd.step _⟩

end Go.Proofs.Ytmhehnckjmoikaa.Pk
