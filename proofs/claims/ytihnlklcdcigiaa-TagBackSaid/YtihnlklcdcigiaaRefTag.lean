/-
  The document's tags: each function's contract, whatever it is given; and the kinds' names.
-/
import Derived.Test.YtihnlklcdcigiaaTagMath
import Derived.Test.YtihnlklcdcigiaaTouch
namespace Go.Proofs.Ytihnlklcdcigiaa.Pk
open Go.RowKit
set_option linter.unusedVariables false
set_option linter.unusedSimpArgs false

def bitB (n : Int) : Bool := inB n 2
theorem beq_no {a b : Int} (h : ¬ a = b) : (a == b) = false := by rw [beq_eq_false_iff_ne]; exact h
theorem bitB_0 : bitB 0 = true := by decide
theorem bitB_1 : bitB 1 = true := by decide
theorem bitB_no {n : Int} (h0 : ¬ n = 0) (h1 : ¬ n = 1) : bitB n = false := inB_mk' (by omega)
theorem mark_any (n : Int) (w : World) : Calls Try.prog 20 #[.int .i64 n] w fun e w' => e = .returned (.bool (bitB n)) ∧ w = w' := by
  by_cases h0 : n = 0
  · subst h0
    go_enter Try.func20, Try.ntmps20
    go_wp2
    go_ret
    exact ⟨ret_bool bitB_0.symm, rfl⟩
  · by_cases h1 : n = 1
    · subst h1
      go_enter Try.func20, Try.ntmps20
      go_wp2
      go_ret
      exact ⟨ret_bool bitB_1.symm, rfl⟩
    · have b0 := beq_no h0
      have b1 := beq_no h1
      have b2 := bitB_no h0 h1
      go_enter Try.func20, Try.ntmps20
      go_wp2
      go_ret
      exact ⟨ret_bool (by rw [b2] <;> rfl), rfl⟩

theorem refPackT_any (k c n s d g o : Int) (w : World) (hr : RightT k c n s d g o) :
    Calls Try.prog 11 #[.agg #[.int .i64 k, .int .i64 c, .int .i64 n, .int .i64 s, .int .i64 d, .int .i64 g, .int .i64 o]] w fun e w' => e = .returned (.int .u32 (packI k c n s d g o)) ∧ Below w.heap.size w w' := by
  obtain ⟨⟨k0, k1⟩, ⟨o0, o1⟩, _, ⟨c0, c1⟩, ⟨n0, n1⟩, ⟨s0, s1⟩, ⟨d0, d1⟩, ⟨g0, g1⟩, _⟩ := hr
  go_enter Try.func11, Try.ntmps11
  go_wp2_with fail
  go_ret
  refine ⟨ret_int ?_, below_new w _⟩
  unfold packI
  omega

theorem refUnpackT_any (x : Int) (w : World) (h0 : 0 ≤ x) (h1 : x ≤ 4294967295) :
    Calls Try.prog 13 #[.int .u32 x] w fun e w' => e = .returned (.agg #[.int .i64 (uK x), .int .i64 (uC x), .int .i64 (uN x), .int .i64 (uS x), .int .i64 (uD x), .int .i64 (uG x), .int .i64 (uO x)]) ∧ Below w.heap.size w w' := by
  go_enter Try.func13, Try.ntmps13
  go_wp2_with fail
  exact bodyPost_ret (v := .agg #[.int .i64 (uK x), .int .i64 (uC x), .int .i64 (uN x), .int .i64 (uS x), .int .i64 (uD x), .int .i64 (uG x), .int .i64 (uO x)]) (by simp [results, Try.results13, go_sem, uK, uC, uN, uS, uD, uG, uO]) rfl ⟨rfl, by
    repeat refine Below.setCell ?_ (by simp) _
    exact below_new w _⟩

/-- The kinds' names. -/
def nmS (k : Int) : ByteArray := if k = 0 then ⟨#[102, 114, 101, 101]⟩ else if k = 1 then ⟨#[115, 109, 97, 108, 108]⟩ else if k = 2 then ⟨#[115, 112, 105, 110, 101]⟩ else if k = 3 then ⟨#[108, 101, 97, 102]⟩ else ⟨#[]⟩
theorem nmS_0 : nmS 0 = ⟨#[102, 114, 101, 101]⟩ := rfl
theorem nmS_1 : nmS 1 = ⟨#[115, 109, 97, 108, 108]⟩ := rfl
theorem nmS_2 : nmS 2 = ⟨#[115, 112, 105, 110, 101]⟩ := rfl
theorem nmS_3 : nmS 3 = ⟨#[108, 101, 97, 102]⟩ := rfl
theorem nmS_no {k : Int} (h0 : ¬ k = 0) (h1 : ¬ k = 1) (h2 : ¬ k = 2) (h3 : ¬ k = 3) : nmS k = ⟨#[]⟩ := by unfold nmS; rw [if_neg h0, if_neg h1, if_neg h2, if_neg h3]
theorem ret_str {a b : ByteArray} (h : a = b) : Ending.returned (.string a) = .returned (.string b) := by rw [h]

theorem refName_any (k : Int) (w : World) : Calls Try.prog 15 #[.int .i64 k] w fun e w' => e = .returned (.string (nmS k)) ∧ w = w' := by
  by_cases h0 : k = 0
  · subst h0
    go_enter Try.func15, Try.ntmps15
    go_wp2
    go_ret
    exact ⟨ret_str nmS_0.symm, rfl⟩
  · have b0 := beq_no h0
    by_cases h1 : k = 1
    · subst h1
      go_enter Try.func15, Try.ntmps15
      go_wp2
      go_ret
      exact ⟨ret_str nmS_1.symm, rfl⟩
    · have b1 := beq_no h1
      by_cases h2 : k = 2
      · subst h2
        go_enter Try.func15, Try.ntmps15
        go_wp2
        go_ret
        exact ⟨ret_str nmS_2.symm, rfl⟩
      · have b2 := beq_no h2
        by_cases h3 : k = 3
        · subst h3
          go_enter Try.func15, Try.ntmps15
          go_wp2
          go_ret
          exact ⟨ret_str nmS_3.symm, rfl⟩
        · have b3 := beq_no h3
          have hn := nmS_no h0 h1 h2 h3
          go_enter Try.func15, Try.ntmps15
          go_wp2
          go_ret
          exact ⟨ret_str hn.symm, rfl⟩
theorem tname_any (k : Int) (w : World) : Calls Try.prog 14 #[.int .i64 k] w fun e w' => e = .returned (.string (nmS k)) ∧ w = w' := by
  by_cases h0 : k = 0
  · subst h0
    go_enter Try.func14, Try.ntmps14
    go_wp2
    go_ret
    exact ⟨ret_str nmS_0.symm, rfl⟩
  · have b0 := beq_no h0
    by_cases h1 : k = 1
    · subst h1
      go_enter Try.func14, Try.ntmps14
      go_wp2
      go_ret
      exact ⟨ret_str nmS_1.symm, rfl⟩
    · have b1 := beq_no h1
      by_cases h2 : k = 2
      · subst h2
        go_enter Try.func14, Try.ntmps14
        go_wp2
        go_ret
        exact ⟨ret_str nmS_2.symm, rfl⟩
      · have b2 := beq_no h2
        by_cases h3 : k = 3
        · subst h3
          go_enter Try.func14, Try.ntmps14
          go_wp2
          go_ret
          exact ⟨ret_str nmS_3.symm, rfl⟩
        · have b3 := beq_no h3
          have hn := nmS_no h0 h1 h2 h3
          go_enter Try.func14, Try.ntmps14
          go_wp2
          go_ret
          exact ⟨ret_str hn.symm, rfl⟩

end Go.Proofs.Ytihnlklcdcigiaa.Pk
