/-
  RefTag: The document's tags: each function's contract, whatever it is given; and the kinds' names.
  RefTag2: The document's Right, whatever it is given.
-/
import Derived.Test.YtgfpcamgebnfmaaTagMath
import Derived.Test.YtgfpcamgebnfmaaBase

namespace Go.Proofs.Ytgfpcamgebnfmaa.Pk
open Go.RowKit
set_option linter.unusedVariables false
set_option linter.unusedSimpArgs false

def bitB (n : Int) : Bool := inB n 2
theorem beq_no {a b : Int} (h : ¬ a = b) : (a == b) = false := by rw [beq_eq_false_iff_ne]; exact h
theorem bitB_0 : bitB 0 = true := by decide
theorem bitB_1 : bitB 1 = true := by decide
theorem bitB_no {n : Int} (h0 : ¬ n = 0) (h1 : ¬ n = 1) : bitB n = false := inB_mk' (by omega)
theorem mark_any (n : Int) (w : World) : Calls Try.prog 69 #[.int .i64 n] w fun e w' => e = .returned (.bool (bitB n)) ∧ w = w' := by
  by_cases h0 : n = 0
  · subst h0
    go_enter Try.func69, Try.ntmps69
    go_wp2
    go_ret
    exact ⟨ret_bool bitB_0.symm, rfl⟩
  · by_cases h1 : n = 1
    · subst h1
      go_enter Try.func69, Try.ntmps69
      go_wp2
      go_ret
      exact ⟨ret_bool bitB_1.symm, rfl⟩
    · have b0 := beq_no h0
      have b1 := beq_no h1
      have b2 := bitB_no h0 h1
      go_enter Try.func69, Try.ntmps69
      go_wp2
      go_ret
      exact ⟨ret_bool (by rw [b2] <;> rfl), rfl⟩

theorem refPackT_any (k c n s d g o : Int) (w : World) (hr : RightT k c n s d g o) :
    Calls Try.prog 50 #[.agg #[.int .i64 k, .int .i64 c, .int .i64 n, .int .i64 s, .int .i64 d, .int .i64 g, .int .i64 o]] w fun e w' => e = .returned (.int .u32 (packI k c n s d g o)) ∧ Below w.heap.size w w' := by
  obtain ⟨⟨k0, k1⟩, ⟨o0, o1⟩, _, ⟨c0, c1⟩, ⟨n0, n1⟩, ⟨s0, s1⟩, ⟨d0, d1⟩, ⟨g0, g1⟩, _⟩ := hr
  go_enter Try.func50, Try.ntmps50
  go_wp2_with fail
  go_ret
  refine ⟨ret_int ?_, below_new w _⟩
  unfold packI
  omega

/-- The kinds' names. -/
def nmS (k : Int) : ByteArray := if k = 0 then ⟨#[102, 114, 101, 101]⟩ else if k = 1 then ⟨#[115, 109, 97, 108, 108]⟩ else if k = 2 then ⟨#[115, 112, 105, 110, 101]⟩ else if k = 3 then ⟨#[108, 101, 97, 102]⟩ else ⟨#[]⟩
theorem nmS_0 : nmS 0 = ⟨#[102, 114, 101, 101]⟩ := rfl
theorem nmS_1 : nmS 1 = ⟨#[115, 109, 97, 108, 108]⟩ := rfl
theorem nmS_2 : nmS 2 = ⟨#[115, 112, 105, 110, 101]⟩ := rfl
theorem nmS_3 : nmS 3 = ⟨#[108, 101, 97, 102]⟩ := rfl
theorem nmS_no {k : Int} (h0 : ¬ k = 0) (h1 : ¬ k = 1) (h2 : ¬ k = 2) (h3 : ¬ k = 3) : nmS k = ⟨#[]⟩ := by unfold nmS; rw [if_neg h0, if_neg h1, if_neg h2, if_neg h3]
theorem ret_str {a b : ByteArray} (h : a = b) : Ending.returned (.string a) = .returned (.string b) := by rw [h]

end Go.Proofs.Ytgfpcamgebnfmaa.Pk

namespace Go.Proofs.Ytgfpcamgebnfmaa.Pk
open Go.RowKit
set_option linter.unusedVariables false
set_option linter.unusedSimpArgs false

theorem rr_k0 (k c n s d g o : Int) (w : World) (h : ¬ 0 ≤ k) :
    Calls Try.prog 49 #[.agg #[.int .i64 k, .int .i64 c, .int .i64 n, .int .i64 s, .int .i64 d, .int .i64 g, .int .i64 o]] w fun e w' => e = .returned (.bool false) ∧ Below w.heap.size w w' := by
  go_enter Try.func49, Try.ntmps49
  go_wp2_with fail
  go_ret
  exact ⟨rfl, below_new w _⟩

theorem rr_k1 (k c n s d g o : Int) (w : World) (h0 : 0 ≤ k) (h : ¬ k ≤ 3) :
    Calls Try.prog 49 #[.agg #[.int .i64 k, .int .i64 c, .int .i64 n, .int .i64 s, .int .i64 d, .int .i64 g, .int .i64 o]] w fun e w' => e = .returned (.bool false) ∧ Below w.heap.size w w' := by
  go_enter Try.func49, Try.ntmps49
  go_wp2_with fail
  go_ret
  exact ⟨rfl, below_new w _⟩

theorem rr_m0 (k c n s d g o : Int) (w : World) (k0 : 0 ≤ k) (k1 : k ≤ 3)  (hc : bitB c = false) :
    Calls Try.prog 49 #[.agg #[.int .i64 k, .int .i64 c, .int .i64 n, .int .i64 s, .int .i64 d, .int .i64 g, .int .i64 o]] w fun e w' => e = .returned (.bool false) ∧ Below w.heap.size w w' := by
  go_enter Try.func49, Try.ntmps49
  go_wp2_with fail
  refine (mark_any c _).mono ?_
  rintro e w1 ⟨rfl, rfl⟩
  go_wp2_with fail
  go_ret
  exact ⟨rfl, below_new w _⟩

theorem rr_m1 (k c n s d g o : Int) (w : World) (k0 : 0 ≤ k) (k1 : k ≤ 3) (hc : bitB c = true) (hn : bitB n = false) :
    Calls Try.prog 49 #[.agg #[.int .i64 k, .int .i64 c, .int .i64 n, .int .i64 s, .int .i64 d, .int .i64 g, .int .i64 o]] w fun e w' => e = .returned (.bool false) ∧ Below w.heap.size w w' := by
  go_enter Try.func49, Try.ntmps49
  go_wp2_with fail
  refine (mark_any c _).mono ?_
  rintro e w1 ⟨rfl, rfl⟩
  go_wp2_with fail
  refine (mark_any n _).mono ?_
  rintro e w2 ⟨rfl, rfl⟩
  go_wp2_with fail
  go_ret
  exact ⟨rfl, below_new w _⟩

theorem rr_m2 (k c n s d g o : Int) (w : World) (k0 : 0 ≤ k) (k1 : k ≤ 3) (hc : bitB c = true) (hn : bitB n = true) (hs : bitB s = false) :
    Calls Try.prog 49 #[.agg #[.int .i64 k, .int .i64 c, .int .i64 n, .int .i64 s, .int .i64 d, .int .i64 g, .int .i64 o]] w fun e w' => e = .returned (.bool false) ∧ Below w.heap.size w w' := by
  go_enter Try.func49, Try.ntmps49
  go_wp2_with fail
  refine (mark_any c _).mono ?_
  rintro e w1 ⟨rfl, rfl⟩
  go_wp2_with fail
  refine (mark_any n _).mono ?_
  rintro e w2 ⟨rfl, rfl⟩
  go_wp2_with fail
  refine (mark_any s _).mono ?_
  rintro e w3 ⟨rfl, rfl⟩
  go_wp2_with fail
  go_ret
  exact ⟨rfl, below_new w _⟩

theorem rr_m3 (k c n s d g o : Int) (w : World) (k0 : 0 ≤ k) (k1 : k ≤ 3) (hc : bitB c = true) (hn : bitB n = true) (hs : bitB s = true) (hd : bitB d = false) :
    Calls Try.prog 49 #[.agg #[.int .i64 k, .int .i64 c, .int .i64 n, .int .i64 s, .int .i64 d, .int .i64 g, .int .i64 o]] w fun e w' => e = .returned (.bool false) ∧ Below w.heap.size w w' := by
  go_enter Try.func49, Try.ntmps49
  go_wp2_with fail
  refine (mark_any c _).mono ?_
  rintro e w1 ⟨rfl, rfl⟩
  go_wp2_with fail
  refine (mark_any n _).mono ?_
  rintro e w2 ⟨rfl, rfl⟩
  go_wp2_with fail
  refine (mark_any s _).mono ?_
  rintro e w3 ⟨rfl, rfl⟩
  go_wp2_with fail
  refine (mark_any d _).mono ?_
  rintro e w4 ⟨rfl, rfl⟩
  go_wp2_with fail
  go_ret
  exact ⟨rfl, below_new w _⟩

theorem rr_m4 (k c n s d g o : Int) (w : World) (k0 : 0 ≤ k) (k1 : k ≤ 3) (hc : bitB c = true) (hn : bitB n = true) (hs : bitB s = true) (hd : bitB d = true) (hg : bitB g = false) :
    Calls Try.prog 49 #[.agg #[.int .i64 k, .int .i64 c, .int .i64 n, .int .i64 s, .int .i64 d, .int .i64 g, .int .i64 o]] w fun e w' => e = .returned (.bool false) ∧ Below w.heap.size w w' := by
  go_enter Try.func49, Try.ntmps49
  go_wp2_with fail
  refine (mark_any c _).mono ?_
  rintro e w1 ⟨rfl, rfl⟩
  go_wp2_with fail
  refine (mark_any n _).mono ?_
  rintro e w2 ⟨rfl, rfl⟩
  go_wp2_with fail
  refine (mark_any s _).mono ?_
  rintro e w3 ⟨rfl, rfl⟩
  go_wp2_with fail
  refine (mark_any d _).mono ?_
  rintro e w4 ⟨rfl, rfl⟩
  go_wp2_with fail
  refine (mark_any g _).mono ?_
  rintro e w5 ⟨rfl, rfl⟩
  go_wp2_with fail
  go_ret
  exact ⟨rfl, below_new w _⟩

theorem rr_o0 (k c n s d g o : Int) (w : World) (k0 : 0 ≤ k) (k1 : k ≤ 3) (hc : bitB c = true) (hn : bitB n = true) (hs : bitB s = true) (hd : bitB d = true) (hg : bitB g = true) (h : ¬ 0 ≤ o) :
    Calls Try.prog 49 #[.agg #[.int .i64 k, .int .i64 c, .int .i64 n, .int .i64 s, .int .i64 d, .int .i64 g, .int .i64 o]] w fun e w' => e = .returned (.bool false) ∧ Below w.heap.size w w' := by
  go_enter Try.func49, Try.ntmps49
  go_wp2_with fail
  refine (mark_any c _).mono ?_
  rintro e w1 ⟨rfl, rfl⟩
  go_wp2_with fail
  refine (mark_any n _).mono ?_
  rintro e w2 ⟨rfl, rfl⟩
  go_wp2_with fail
  refine (mark_any s _).mono ?_
  rintro e w3 ⟨rfl, rfl⟩
  go_wp2_with fail
  refine (mark_any d _).mono ?_
  rintro e w4 ⟨rfl, rfl⟩
  go_wp2_with fail
  refine (mark_any g _).mono ?_
  rintro e w5 ⟨rfl, rfl⟩
  go_wp2_with fail
  go_ret
  exact ⟨rfl, below_new w _⟩

theorem rr_o1 (k c n s d g o : Int) (w : World) (k0 : 0 ≤ k) (k1 : k ≤ 3) (hc : bitB c = true) (hn : bitB n = true) (hs : bitB s = true) (hd : bitB d = true) (hg : bitB g = true) (h0 : 0 ≤ o) (h : ¬ o ≤ 1048575) :
    Calls Try.prog 49 #[.agg #[.int .i64 k, .int .i64 c, .int .i64 n, .int .i64 s, .int .i64 d, .int .i64 g, .int .i64 o]] w fun e w' => e = .returned (.bool false) ∧ Below w.heap.size w w' := by
  go_enter Try.func49, Try.ntmps49
  go_wp2_with fail
  refine (mark_any c _).mono ?_
  rintro e w1 ⟨rfl, rfl⟩
  go_wp2_with fail
  refine (mark_any n _).mono ?_
  rintro e w2 ⟨rfl, rfl⟩
  go_wp2_with fail
  refine (mark_any s _).mono ?_
  rintro e w3 ⟨rfl, rfl⟩
  go_wp2_with fail
  refine (mark_any d _).mono ?_
  rintro e w4 ⟨rfl, rfl⟩
  go_wp2_with fail
  refine (mark_any g _).mono ?_
  rintro e w5 ⟨rfl, rfl⟩
  go_wp2_with fail
  go_ret
  exact ⟨rfl, below_new w _⟩

theorem rr_f0 (k c n s d g o : Int) (w : World) (k0 : 0 ≤ k) (k1 : k ≤ 3) (hc : bitB c = true) (hn : bitB n = true) (hs : bitB s = true) (hd : bitB d = true) (hg : bitB g = true) (o0 : 0 ≤ o) (o1 : o ≤ 1048575) (hk : k = 0) (hs0 : 0 < c + n + s + d + g) :
    Calls Try.prog 49 #[.agg #[.int .i64 k, .int .i64 c, .int .i64 n, .int .i64 s, .int .i64 d, .int .i64 g, .int .i64 o]] w fun e w' => e = .returned (.bool false) ∧ Below w.heap.size w w' := by
  have b0 : (k == 0) = true := by rw [hk]; rfl
  obtain ⟨c0, c1⟩ := inB_yes hc
  obtain ⟨n0, n1⟩ := inB_yes hn
  obtain ⟨s0, s1⟩ := inB_yes hs
  obtain ⟨d0, d1⟩ := inB_yes hd
  obtain ⟨g0, g1⟩ := inB_yes hg
  go_enter Try.func49, Try.ntmps49
  go_wp2_with fail
  refine (mark_any c _).mono ?_
  rintro e w1 ⟨rfl, rfl⟩
  go_wp2_with fail
  refine (mark_any n _).mono ?_
  rintro e w2 ⟨rfl, rfl⟩
  go_wp2_with fail
  refine (mark_any s _).mono ?_
  rintro e w3 ⟨rfl, rfl⟩
  go_wp2_with fail
  refine (mark_any d _).mono ?_
  rintro e w4 ⟨rfl, rfl⟩
  go_wp2_with fail
  refine (mark_any g _).mono ?_
  rintro e w5 ⟨rfl, rfl⟩
  go_wp2_with fail
  go_ret
  exact ⟨rfl, below_new w _⟩

theorem rr_f1 (k c n s d g o : Int) (w : World) (k0 : 0 ≤ k) (k1 : k ≤ 3) (hc : bitB c = true) (hn : bitB n = true) (hs : bitB s = true) (hd : bitB d = true) (hg : bitB g = true) (o0 : 0 ≤ o) (o1 : o ≤ 1048575) (hk : k = 0) (hs0 : c + n + s + d + g = 0) (ho : o = 0) :
    Calls Try.prog 49 #[.agg #[.int .i64 k, .int .i64 c, .int .i64 n, .int .i64 s, .int .i64 d, .int .i64 g, .int .i64 o]] w fun e w' => e = .returned (.bool true) ∧ Below w.heap.size w w' := by
  have b0 : (k == 0) = true := by rw [hk]; rfl
  have b3 : (k == 3) = false := by rw [hk]; rfl
  have b1 : (o == 0) = true := by rw [ho]; rfl
  have hs1 : ¬ 0 < c + n + s + d + g := by omega
  obtain ⟨c0, c1⟩ := inB_yes hc
  obtain ⟨n0, n1⟩ := inB_yes hn
  obtain ⟨s0, s1⟩ := inB_yes hs
  obtain ⟨d0, d1⟩ := inB_yes hd
  obtain ⟨g0, g1⟩ := inB_yes hg
  go_enter Try.func49, Try.ntmps49
  go_wp2_with fail
  refine (mark_any c _).mono ?_
  rintro e w1 ⟨rfl, rfl⟩
  go_wp2_with fail
  refine (mark_any n _).mono ?_
  rintro e w2 ⟨rfl, rfl⟩
  go_wp2_with fail
  refine (mark_any s _).mono ?_
  rintro e w3 ⟨rfl, rfl⟩
  go_wp2_with fail
  refine (mark_any d _).mono ?_
  rintro e w4 ⟨rfl, rfl⟩
  go_wp2_with fail
  refine (mark_any g _).mono ?_
  rintro e w5 ⟨rfl, rfl⟩
  go_wp2_with fail
  go_ret
  exact ⟨rfl, below_new w _⟩

theorem rr_f2 (k c n s d g o : Int) (w : World) (k0 : 0 ≤ k) (k1 : k ≤ 3) (hc : bitB c = true) (hn : bitB n = true) (hs : bitB s = true) (hd : bitB d = true) (hg : bitB g = true) (o0 : 0 ≤ o) (o1 : o ≤ 1048575) (hk : k = 0) (hs0 : c + n + s + d + g = 0) (ho : ¬ o = 0) :
    Calls Try.prog 49 #[.agg #[.int .i64 k, .int .i64 c, .int .i64 n, .int .i64 s, .int .i64 d, .int .i64 g, .int .i64 o]] w fun e w' => e = .returned (.bool false) ∧ Below w.heap.size w w' := by
  have b0 : (k == 0) = true := by rw [hk]; rfl
  have b3 : (k == 3) = false := by rw [hk]; rfl
  have b1 : (o == 0) = false := beq_no ho
  have hs1 : ¬ 0 < c + n + s + d + g := by omega
  obtain ⟨c0, c1⟩ := inB_yes hc
  obtain ⟨n0, n1⟩ := inB_yes hn
  obtain ⟨s0, s1⟩ := inB_yes hs
  obtain ⟨d0, d1⟩ := inB_yes hd
  obtain ⟨g0, g1⟩ := inB_yes hg
  go_enter Try.func49, Try.ntmps49
  go_wp2_with fail
  refine (mark_any c _).mono ?_
  rintro e w1 ⟨rfl, rfl⟩
  go_wp2_with fail
  refine (mark_any n _).mono ?_
  rintro e w2 ⟨rfl, rfl⟩
  go_wp2_with fail
  refine (mark_any s _).mono ?_
  rintro e w3 ⟨rfl, rfl⟩
  go_wp2_with fail
  refine (mark_any d _).mono ?_
  rintro e w4 ⟨rfl, rfl⟩
  go_wp2_with fail
  refine (mark_any g _).mono ?_
  rintro e w5 ⟨rfl, rfl⟩
  go_wp2_with fail
  go_ret
  exact ⟨rfl, below_new w _⟩

theorem rr_l0 (k c n s d g o : Int) (w : World) (k0 : 0 ≤ k) (k1 : k ≤ 3) (hc : bitB c = true) (hn : bitB n = true) (hs : bitB s = true) (hd : bitB d = true) (hg : bitB g = true) (o0 : 0 ≤ o) (o1 : o ≤ 1048575) (hk : k = 3) (hs0 : 0 < c + n + s + d + g) :
    Calls Try.prog 49 #[.agg #[.int .i64 k, .int .i64 c, .int .i64 n, .int .i64 s, .int .i64 d, .int .i64 g, .int .i64 o]] w fun e w' => e = .returned (.bool false) ∧ Below w.heap.size w w' := by
  have b0 : (k == 0) = false := by rw [hk]; rfl
  have b3 : (k == 3) = true := by rw [hk]; rfl
  obtain ⟨c0, c1⟩ := inB_yes hc
  obtain ⟨n0, n1⟩ := inB_yes hn
  obtain ⟨s0, s1⟩ := inB_yes hs
  obtain ⟨d0, d1⟩ := inB_yes hd
  obtain ⟨g0, g1⟩ := inB_yes hg
  go_enter Try.func49, Try.ntmps49
  go_wp2_with fail
  refine (mark_any c _).mono ?_
  rintro e w1 ⟨rfl, rfl⟩
  go_wp2_with fail
  refine (mark_any n _).mono ?_
  rintro e w2 ⟨rfl, rfl⟩
  go_wp2_with fail
  refine (mark_any s _).mono ?_
  rintro e w3 ⟨rfl, rfl⟩
  go_wp2_with fail
  refine (mark_any d _).mono ?_
  rintro e w4 ⟨rfl, rfl⟩
  go_wp2_with fail
  refine (mark_any g _).mono ?_
  rintro e w5 ⟨rfl, rfl⟩
  go_wp2_with fail
  go_ret
  exact ⟨rfl, below_new w _⟩

theorem rr_l1 (k c n s d g o : Int) (w : World) (k0 : 0 ≤ k) (k1 : k ≤ 3) (hc : bitB c = true) (hn : bitB n = true) (hs : bitB s = true) (hd : bitB d = true) (hg : bitB g = true) (o0 : 0 ≤ o) (o1 : o ≤ 1048575) (hk : k = 3) (hs0 : c + n + s + d + g = 0) :
    Calls Try.prog 49 #[.agg #[.int .i64 k, .int .i64 c, .int .i64 n, .int .i64 s, .int .i64 d, .int .i64 g, .int .i64 o]] w fun e w' => e = .returned (.bool true) ∧ Below w.heap.size w w' := by
  have b0 : (k == 0) = false := by rw [hk]; rfl
  have b3 : (k == 3) = true := by rw [hk]; rfl
  have hs1 : ¬ 0 < c + n + s + d + g := by omega
  obtain ⟨c0, c1⟩ := inB_yes hc
  obtain ⟨n0, n1⟩ := inB_yes hn
  obtain ⟨s0, s1⟩ := inB_yes hs
  obtain ⟨d0, d1⟩ := inB_yes hd
  obtain ⟨g0, g1⟩ := inB_yes hg
  go_enter Try.func49, Try.ntmps49
  go_wp2_with fail
  refine (mark_any c _).mono ?_
  rintro e w1 ⟨rfl, rfl⟩
  go_wp2_with fail
  refine (mark_any n _).mono ?_
  rintro e w2 ⟨rfl, rfl⟩
  go_wp2_with fail
  refine (mark_any s _).mono ?_
  rintro e w3 ⟨rfl, rfl⟩
  go_wp2_with fail
  refine (mark_any d _).mono ?_
  rintro e w4 ⟨rfl, rfl⟩
  go_wp2_with fail
  refine (mark_any g _).mono ?_
  rintro e w5 ⟨rfl, rfl⟩
  go_wp2_with fail
  go_ret
  exact ⟨rfl, below_new w _⟩

theorem rr_s1 (k c n s d g o : Int) (w : World) (k0 : 0 ≤ k) (k1 : k ≤ 3) (hc : bitB c = true) (hn : bitB n = true) (hs : bitB s = true) (hd : bitB d = true) (hg : bitB g = true) (o0 : 0 ≤ o) (o1 : o ≤ 1048575) (hk : ¬ k = 0) (hk3 : ¬ k = 3) (ho : o = 0) :
    Calls Try.prog 49 #[.agg #[.int .i64 k, .int .i64 c, .int .i64 n, .int .i64 s, .int .i64 d, .int .i64 g, .int .i64 o]] w fun e w' => e = .returned (.bool true) ∧ Below w.heap.size w w' := by
  have b0 : (k == 0) = false := beq_no hk
  have b3 : (k == 3) = false := beq_no hk3
  have b1 : (o == 0) = true := by rw [ho]; rfl
  obtain ⟨c0, c1⟩ := inB_yes hc
  obtain ⟨n0, n1⟩ := inB_yes hn
  obtain ⟨s0, s1⟩ := inB_yes hs
  obtain ⟨d0, d1⟩ := inB_yes hd
  obtain ⟨g0, g1⟩ := inB_yes hg
  go_enter Try.func49, Try.ntmps49
  go_wp2_with fail
  refine (mark_any c _).mono ?_
  rintro e w1 ⟨rfl, rfl⟩
  go_wp2_with fail
  refine (mark_any n _).mono ?_
  rintro e w2 ⟨rfl, rfl⟩
  go_wp2_with fail
  refine (mark_any s _).mono ?_
  rintro e w3 ⟨rfl, rfl⟩
  go_wp2_with fail
  refine (mark_any d _).mono ?_
  rintro e w4 ⟨rfl, rfl⟩
  go_wp2_with fail
  refine (mark_any g _).mono ?_
  rintro e w5 ⟨rfl, rfl⟩
  go_wp2_with fail
  go_ret
  exact ⟨rfl, below_new w _⟩

theorem rr_s2 (k c n s d g o : Int) (w : World) (k0 : 0 ≤ k) (k1 : k ≤ 3) (hc : bitB c = true) (hn : bitB n = true) (hs : bitB s = true) (hd : bitB d = true) (hg : bitB g = true) (o0 : 0 ≤ o) (o1 : o ≤ 1048575) (hk : ¬ k = 0) (hk3 : ¬ k = 3) (ho : ¬ o = 0) :
    Calls Try.prog 49 #[.agg #[.int .i64 k, .int .i64 c, .int .i64 n, .int .i64 s, .int .i64 d, .int .i64 g, .int .i64 o]] w fun e w' => e = .returned (.bool false) ∧ Below w.heap.size w w' := by
  have b0 : (k == 0) = false := beq_no hk
  have b3 : (k == 3) = false := beq_no hk3
  have b1 : (o == 0) = false := beq_no ho
  obtain ⟨c0, c1⟩ := inB_yes hc
  obtain ⟨n0, n1⟩ := inB_yes hn
  obtain ⟨s0, s1⟩ := inB_yes hs
  obtain ⟨d0, d1⟩ := inB_yes hd
  obtain ⟨g0, g1⟩ := inB_yes hg
  go_enter Try.func49, Try.ntmps49
  go_wp2_with fail
  refine (mark_any c _).mono ?_
  rintro e w1 ⟨rfl, rfl⟩
  go_wp2_with fail
  refine (mark_any n _).mono ?_
  rintro e w2 ⟨rfl, rfl⟩
  go_wp2_with fail
  refine (mark_any s _).mono ?_
  rintro e w3 ⟨rfl, rfl⟩
  go_wp2_with fail
  refine (mark_any d _).mono ?_
  rintro e w4 ⟨rfl, rfl⟩
  go_wp2_with fail
  refine (mark_any g _).mono ?_
  rintro e w5 ⟨rfl, rfl⟩
  go_wp2_with fail
  go_ret
  exact ⟨rfl, below_new w _⟩


theorem refRightT_any (k c n s d g o : Int) (w : World) :
    Calls Try.prog 49 #[.agg #[.int .i64 k, .int .i64 c, .int .i64 n, .int .i64 s, .int .i64 d, .int .i64 g, .int .i64 o]] w fun e w' => e = .returned (.bool (rightB k c n s d g o)) ∧ Below w.heap.size w w' := by
  have no : ¬ RightT k c n s d g o → Calls Try.prog 49 #[.agg #[.int .i64 k, .int .i64 c, .int .i64 n, .int .i64 s, .int .i64 d, .int .i64 g, .int .i64 o]] w (fun e w' => e = .returned (.bool false) ∧ Below w.heap.size w w') → Calls Try.prog 49 #[.agg #[.int .i64 k, .int .i64 c, .int .i64 n, .int .i64 s, .int .i64 d, .int .i64 g, .int .i64 o]] w fun e w' => e = .returned (.bool (rightB k c n s d g o)) ∧ Below w.heap.size w w' := fun h h2 => by rw [rightB_no h]; exact h2
  have yes : RightT k c n s d g o → Calls Try.prog 49 #[.agg #[.int .i64 k, .int .i64 c, .int .i64 n, .int .i64 s, .int .i64 d, .int .i64 g, .int .i64 o]] w (fun e w' => e = .returned (.bool true) ∧ Below w.heap.size w w') → Calls Try.prog 49 #[.agg #[.int .i64 k, .int .i64 c, .int .i64 n, .int .i64 s, .int .i64 d, .int .i64 g, .int .i64 o]] w fun e w' => e = .returned (.bool (rightB k c n s d g o)) ∧ Below w.heap.size w w' := fun h h2 => by rw [rightB_mk h]; exact h2
  unfold RightT at no yes
  by_cases k0 : 0 ≤ k
  · by_cases k1 : k ≤ 3
    · cases hc : bitB c with
      | false => exact no (by have := inB_no hc; omega) (rr_m0 k c n s d g o w k0 k1 hc)
      | true =>
      cases hn : bitB n with
      | false => exact no (by have := inB_no hn; omega) (rr_m1 k c n s d g o w k0 k1 hc hn)
      | true =>
      cases hs : bitB s with
      | false => exact no (by have := inB_no hs; omega) (rr_m2 k c n s d g o w k0 k1 hc hn hs)
      | true =>
      cases hd : bitB d with
      | false => exact no (by have := inB_no hd; omega) (rr_m3 k c n s d g o w k0 k1 hc hn hs hd)
      | true =>
      cases hg : bitB g with
      | false => exact no (by have := inB_no hg; omega) (rr_m4 k c n s d g o w k0 k1 hc hn hs hd hg)
      | true =>
      have qc := inB_yes hc
      have qn := inB_yes hn
      have qs := inB_yes hs
      have qd := inB_yes hd
      have qg := inB_yes hg
      by_cases o0 : 0 ≤ o
      · by_cases o1 : o ≤ 1048575
        · by_cases hk : k = 0
          · by_cases h0 : 0 < c + n + s + d + g
            · exact no (by omega) (rr_f0 k c n s d g o w k0 k1 hc hn hs hd hg o0 o1 hk h0)
            · by_cases ho : o = 0
              · exact yes (by omega) (rr_f1 k c n s d g o w k0 k1 hc hn hs hd hg o0 o1 hk (by omega) ho)
              · exact no (by omega) (rr_f2 k c n s d g o w k0 k1 hc hn hs hd hg o0 o1 hk (by omega) ho)
          · by_cases hk3 : k = 3
            · by_cases h0 : 0 < c + n + s + d + g
              · exact no (by omega) (rr_l0 k c n s d g o w k0 k1 hc hn hs hd hg o0 o1 hk3 h0)
              · exact yes (by omega) (rr_l1 k c n s d g o w k0 k1 hc hn hs hd hg o0 o1 hk3 (by omega))
            · by_cases ho : o = 0
              · exact yes (by omega) (rr_s1 k c n s d g o w k0 k1 hc hn hs hd hg o0 o1 hk hk3 ho)
              · exact no (by omega) (rr_s2 k c n s d g o w k0 k1 hc hn hs hd hg o0 o1 hk hk3 ho)
        · exact no (by omega) (rr_o1 k c n s d g o w k0 k1 hc hn hs hd hg o0 o1)
      · exact no (by omega) (rr_o0 k c n s d g o w k0 k1 hc hn hs hd hg o0)
    · exact no (by omega) (rr_k1 k c n s d g o w k0 k1)
  · exact no (by omega) (rr_k0 k c n s d g o w k0)

end Go.Proofs.Ytgfpcamgebnfmaa.Pk
