/-
  What the functions of package chain return.
-/
import Derived.Test.YtljdbaddockfcaaGreatChain
import Derived.Test.YtljdbaddockfcaaGreatGroFn
import Derived.BigQuiet
namespace Go.Proofs.YtljdbaddockfcaaGreat.Pk
open Go.RowKit
set_option linter.unusedVariables false
set_option linter.unusedSimpArgs false

theorem ch_has (p : Pl) (c : Cf) (s : St) (b : Int) (w : World) (hG : G w p c s) :
    Calls Tryz.prog 180 #[.pointer (some ⟨p.a, 0, none⟩), .int .i64 b] w fun e w' => e = .returned (.bool (bel b c.N)) ∧ Below w.heap.size w w' := by
  have HG := Lib.hid hG
  have hfd := cfield0 (c.N : Int) (c.W : Int) (c.R : Int) (c.K : Int)
  clear hG
  by_cases h : 0 ≤ b
  · have E : Hid (decide (b < (c.N : Int)) = bel b c.N) := Lib.hid (by unfold bel; simp [h])
    go_enter Tryz.func180, Tryz.ntmps180
    go_wp2_with fail
    refine (gconfC p c s _ HG.out).mono ?_
    rintro e w1 ⟨rfl, hb⟩
    have HB := Lib.hid hb
    clear hb
    go_wp2_with fail
    go_ret
    exact ⟨ret_bool E.out, HB.out⟩
  · have E : Hid (bel b c.N = false) := Lib.hid (by unfold bel; simp [h])
    have h' : b < 0 := by omega
    go_enter Tryz.func180, Tryz.ntmps180
    go_wp2_with fail
    go_ret
    exact ⟨ret_bool E.out.symm, Below.refl _ _⟩

theorem ch_regs (p : Pl) (k : Nat) (w : World) (hk : k < 2) :
    Calls Tryz.prog 131 #[.pointer (some ⟨p.a, 0, none⟩), .int .i64 (k : Int)] w fun e w' => e = .returned (.tuple #[.int .i64 ((3 * k : Nat) : Int), .bool true]) ∧ w = w' := by
  have hk2 : k = 0 ∨ k = 1 := by omega
  rcases hk2 with rfl | rfl
  all_goals
    go_enter Tryz.func131, Tryz.ntmps131
    go_wp2_with fail
    go_ret2
    exact ⟨rfl, rfl⟩
theorem ch_regs_no (p : Pl) (k : Int) (w : World) (hk : ¬ (k = 0 ∨ k = 1)) :
    Calls Tryz.prog 131 #[.pointer (some ⟨p.a, 0, none⟩), .int .i64 k] w fun e w' => e = .returned (.tuple #[.int .i64 0, .bool false]) ∧ w = w' := by
  by_cases h : 0 ≤ k
  · have h2 : 2 ≤ k := by omega
    clear hk
    go_enter Tryz.func131, Tryz.ntmps131
    go_wp2_with fail
    go_ret2
    exact ⟨rfl, rfl⟩
  · have h2 : k < 0 := by omega
    clear hk h
    go_enter Tryz.func131, Tryz.ntmps131
    go_wp2_with fail
    go_ret2
    exact ⟨rfl, rfl⟩
theorem ch_regs_nil (k : Int) (w : World) :
    Calls Tryz.prog 131 #[.pointer none, .int .i64 k] w fun e w' => e = .returned (.tuple #[.int .i64 0, .bool false]) ∧ w = w' := by
  go_enter Tryz.func131, Tryz.ntmps131
  go_wp2_with fail
  go_ret2
  exact ⟨rfl, rfl⟩

/-- A block by its name. -/
theorem ch_named (p : Pl) (c : Cf) (s : St) (b : Nat) (x : Int) (w : World) (hG : G w p c s) (hb : b < c.N) (hx : x = (b : Int) + 1) :
    Calls Tryz.prog 132 #[.pointer (some ⟨p.a, 0, none⟩), .int .i64 x] w fun e w' => e = .returned (.tuple #[.int .i64 (b : Int), .bool true]) ∧ Below w.heap.size w w' := by
  subst hx
  have HG := Lib.hid hG
  have hN := hG.may.n
  have E := Lib.hid (bel_mk hb)
  have e1 : IntKind.i64.wrap ((b : Int) + 1 - 1) = (b : Int) := by rw [Int.add_sub_cancel]; exact IntWalk.i64_in _ (by omega)
  clear hG
  go_enter Tryz.func132, Tryz.ntmps132
  go_wp2_with fail
  refine (ch_has p c s _ _ HG.out).mono ?_
  rw [E.out]
  rintro e w1 ⟨rfl, hb1⟩
  have HB := Lib.hid hb1
  clear hb1
  go_wp2_with fail
  go_ret2
  exact ⟨rfl, HB.out⟩
theorem ch_named0 (p : Pl) (c : Cf) (s : St) (w : World) (hG : G w p c s) :
    Calls Tryz.prog 132 #[.pointer (some ⟨p.a, 0, none⟩), .int .i64 0] w fun e w' => e = .returned (.tuple #[.int .i64 0, .bool false]) ∧ Below w.heap.size w w' := by
  have HG := Lib.hid hG
  clear hG
  have E : Hid (bel (-1) c.N = false) := Lib.hid (by unfold bel; simp)
  go_enter Tryz.func132, Tryz.ntmps132
  go_wp2_with fail
  refine (ch_has p c s (-1) _ HG.out).mono ?_
  rw [E.out]
  rintro e w1 ⟨rfl, hb1⟩
  have HB := Lib.hid hb1
  clear hb1
  go_wp2_with fail
  go_ret2
  exact ⟨rfl, HB.out⟩

theorem ch_first (p : Pl) (c : Cf) (s : St) (k b : Nat) (l : List Nat) (w : World) (hG : G w p c s) (hC : ChainAt c s.zs k (b :: l)) (hk : k < 2) :
    Calls Tryz.prog 116 #[.pointer (some ⟨p.a, 0, none⟩), .int .i64 (k : Int)] w (GP w p c s.got (.tuple #[.int .i64 (b : Int), .bool true])) := by
  have HG := Lib.hid hG
  have H0 := Lib.hid (hC.r0.trans (show fstI (b :: l) = (b : Int) + 1 from rfl))
  have hb := hC.lt b (by simp)
  have HR := Lib.hid (ch_regs p k w hk)
  have e1 : IntKind.i64.wrap (((3 * k : Nat) : Int) + 0) = ((3 * k : Nat) : Int) := by rw [Int.add_zero]; exact IntWalk.i64_in _ (by omega)
  clear hG hC
  go_enter Tryz.func116, Tryz.ntmps116
  go_wp2_with fail
  refine HR.out.mono ?_
  rintro e w1 ⟨rfl, rfl⟩
  go_wp2_with fail
  refine (regR p c s (3 * k) _ _ _ HG.out (by omega) (by first | rfl | exact e1) H0.out).mono ?_
  rintro e w1 ⟨rfl, hG1, hT1⟩
  have HG1 := Lib.hid hG1
  have HT1 := Lib.hid hT1
  clear hG1 hT1
  go_wp2_with fail
  refine (ch_named p c s.got b _ _ HG1.out hb rfl).mono ?_
  rintro e w2 ⟨rfl, hb2⟩
  have HG2 := Lib.hid (HG1.out.later hb2)
  have HT2 := Lib.hid (HT1.out.trans (Touch.of_below hb2))
  clear hb2
  go_wp2_with fail
  go_ret2
  exact ⟨rfl, HG2.out, HT2.out⟩
theorem ch_first_no (p : Pl) (c : Cf) (s : St) (k : Int) (w : World) (hG : G w p c s) (h : NoTake c s.zs k) :
    Calls Tryz.prog 116 #[.pointer (some ⟨p.a, 0, none⟩), .int .i64 k] w (ChPost w p c s s.zs (.tuple #[.int .i64 0, .bool false])) := by
  have HG := Lib.hid hG
  clear hG
  rcases h with h | ⟨j, rfl, hj, hC⟩
  · go_enter Tryz.func116, Tryz.ntmps116
    go_wp2_with fail
    refine (ch_regs_no p k _ h).mono ?_
    rintro e w1 ⟨rfl, rfl⟩
    go_wp2_with fail
    go_ret2
    exact ⟨s.m, rfl, HG.out, Nat.le_refl _, by omega, Touch.refl _ _⟩
  · have H0 := Lib.hid (hC.r0.trans (show fstI [] = (0 : Int) from rfl))
    have HR := Lib.hid (ch_regs p j w hj)
    have e1 : IntKind.i64.wrap (((3 * j : Nat) : Int) + 0) = ((3 * j : Nat) : Int) := by rw [Int.add_zero]; exact IntWalk.i64_in _ (by omega)
    clear hC
    go_enter Tryz.func116, Tryz.ntmps116
    go_wp2_with fail
    refine HR.out.mono ?_
    rintro e w1 ⟨rfl, rfl⟩
    go_wp2_with fail
    refine (regR p c s (3 * j) _ _ _ HG.out (by omega) (by first | rfl | exact e1) H0.out).mono ?_
    rintro e w1 ⟨rfl, hG1, hT1⟩
    have HG1 := Lib.hid hG1
    have HT1 := Lib.hid hT1
    clear hG1 hT1
    go_wp2_with fail
    refine (ch_named0 p c s.got _ HG1.out).mono ?_
    rintro e w2 ⟨rfl, hb2⟩
    have HG2 := Lib.hid (HG1.out.later hb2)
    have HT2 := Lib.hid (HT1.out.trans (Touch.of_below hb2))
    clear hb2
    go_wp2_with fail
    go_ret2
    exact ⟨s.m + 1, rfl, HG2.out, by omega, by omega, HT2.out⟩

theorem ch_len (p : Pl) (c : Cf) (s : St) (k : Nat) (l : List Nat) (w : World) (hG : G w p c s) (hC : ChainAt c s.zs k l) (hk : k < 2) :
    Calls Tryz.prog 67 #[.pointer (some ⟨p.a, 0, none⟩), .int .i64 (k : Int)] w (ChPost w p c s s.zs (.int .i64 (l.length : Int))) := by
  have HG := Lib.hid hG
  have H0 := Lib.hid hC.r2
  have HR := Lib.hid (ch_regs p k w hk)
  have e1 : IntKind.i64.wrap (((3 * k : Nat) : Int) + 2) = ((3 * k + 2 : Nat) : Int) := by rw [show ((3 * k : Nat) : Int) + 2 = ((3 * k + 2 : Nat) : Int) by omega]; exact IntWalk.i64_in _ (by omega)
  clear hG hC
  go_enter Tryz.func67, Tryz.ntmps67
  go_wp2_with fail
  refine HR.out.mono ?_
  rintro e w1 ⟨rfl, rfl⟩
  go_wp2_with fail
  refine (regR p c s (3 * k + 2) _ _ _ HG.out (by omega) (by first | rfl | exact e1) H0.out).mono ?_
  rintro e w1 ⟨rfl, hG1, hT1⟩
  have HG1 := Lib.hid hG1
  have HT1 := Lib.hid hT1
  clear hG1 hT1
  go_wp2_with fail
  go_ret
  exact ⟨s.m + 1, rfl, HG1.out, by omega, by omega, HT1.out⟩
theorem ch_len_no (p : Pl) (c : Cf) (s : St) (k : Int) (w : World) (hG : G w p c s) (h : ¬ (k = 0 ∨ k = 1)) :
    Calls Tryz.prog 67 #[.pointer (some ⟨p.a, 0, none⟩), .int .i64 k] w (ChPost w p c s s.zs (.int .i64 0)) := by
  have HG := Lib.hid hG
  clear hG
  go_enter Tryz.func67, Tryz.ntmps67
  go_wp2_with fail
  refine (ch_regs_no p k _ h).mono ?_
  rintro e w1 ⟨rfl, rfl⟩
  go_wp2_with fail
  go_ret
  exact ⟨s.m, rfl, HG.out, Nat.le_refl _, by omega, Touch.refl _ _⟩

end Go.Proofs.YtljdbaddockfcaaGreat.Pk
