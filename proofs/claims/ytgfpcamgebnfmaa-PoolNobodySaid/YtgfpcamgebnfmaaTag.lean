/-
  The program's tags: each function's contract, whatever it is given.
-/
import Derived.Test.YtgfpcamgebnfmaaTagMath
import Derived.Test.YtgfpcamgebnfmaaTouch
import Derived.LoopN
import Derived.ChangeKeysEq
namespace Go.Proofs.Ytgfpcamgebnfmaa.Pk
open Go.RowKit
set_option linter.unusedVariables false
set_option linter.unusedSimpArgs false

/-- The closure of Unpack, which gets a piece of the word that it holds. -/
theorem tpiece_any (b : Nat) (x a n : Int) (w : World) (hb : Blk w b #[.int .u32 x] 36) (h0 : 0 ≤ x) (h1 : x ≤ 4294967295) :
    Calls Try.prog 53 #[.int .i64 a, .int .i64 n, .pointer (some ⟨b, 0, none⟩)] w fun e w' => e = .returned (.int .i64 (getI x a n)) ∧ Drw w w' := by
  have c0 := hb.cell 0 rfl
  have g0 := getI_lo (w := x) (a := a) (n := n) h0
  have g1 := getI_hi (w := x) (a := a) (n := n) h0 h1
  clear hb
  go_enter Try.func53, Try.ntmps53
  go_wp2_with fail
  refine (get_any x a n _ h0 h1).mono ?_
  rintro e w1 ⟨rfl, m, rfl⟩
  go_wp2_with fail
  go_ret
  exact ⟨rfl, m, rfl⟩

theorem arr_ix0 (a b c d e : Int) (w : World) : (Instr.index 95 (.agg #[.int .i64 a, .int .i64 b, .int .i64 c, .int .i64 d, .int .i64 e]) (.int .i64 0)).run Try.prog w = .ok (.int .i64 a) w := by kernel_rfl
theorem arr_ix1 (a b c d e : Int) (w : World) : (Instr.index 95 (.agg #[.int .i64 a, .int .i64 b, .int .i64 c, .int .i64 d, .int .i64 e]) (.int .i64 1)).run Try.prog w = .ok (.int .i64 b) w := by kernel_rfl
theorem arr_ix2 (a b c d e : Int) (w : World) : (Instr.index 95 (.agg #[.int .i64 a, .int .i64 b, .int .i64 c, .int .i64 d, .int .i64 e]) (.int .i64 2)).run Try.prog w = .ok (.int .i64 c) w := by kernel_rfl
theorem arr_ix3 (a b c d e : Int) (w : World) : (Instr.index 95 (.agg #[.int .i64 a, .int .i64 b, .int .i64 c, .int .i64 d, .int .i64 e]) (.int .i64 3)).run Try.prog w = .ok (.int .i64 d) w := by kernel_rfl
theorem arr_ix4 (a b c d e : Int) (w : World) : (Instr.index 95 (.agg #[.int .i64 a, .int .i64 b, .int .i64 c, .int .i64 d, .int .i64 e]) (.int .i64 4)).run Try.prog w = .ok (.int .i64 e) w := by kernel_rfl

theorem arr_eq (c n s d g : Int) (w : World) : (binOp .eql 95 (.agg #[.int .i64 c, .int .i64 n, .int .i64 s, .int .i64 d, .int .i64 g]) (.agg #[.int .i64 0, .int .i64 0, .int .i64 0, .int .i64 0, .int .i64 0])).run Try.prog w = .ok (.bool (noneB c n s d g)) w := by
  obtain ⟨i0, hi, _⟩ := info_parts (show (Try.prog.info? 3).map (fun i => (i.zero, i.size, i.bytes)) = some (some (.int .i64 0), 1, 8) by kernel_rfl)
  have h1 : Try.prog.cellsOf 3 = 1 := by kernel_rfl
  rw [run_eql_struct, show (10000 : Nat) = 9999 + 1 from rfl, run_equalIn_array w 9999 _ _ Try.underlying95 hi, h1, show List.range 5 = [0, 1, 2, 3, 4] from rfl]
  have u := Try.underlying3
  have e1 : ∀ (a : Int) (w : World), (Op.equalIn 9999 3 (.int .i64 a) (.int .i64 0)).run Try.prog w = .ok (a == 0) w := fun a w => run_equalIn_int w 9998 3 .i64 .i64 a 0 u
  have pp : ∀ (a b c d e : Int) (w : World), (Go.part 3 #[.int .i64 a, .int .i64 b, .int .i64 c, .int .i64 d, .int .i64 e] (0 * 1)).run Try.prog w = .ok (.int .i64 a) w ∧ (Go.part 3 #[.int .i64 a, .int .i64 b, .int .i64 c, .int .i64 d, .int .i64 e] (1 * 1)).run Try.prog w = .ok (.int .i64 b) w ∧ (Go.part 3 #[.int .i64 a, .int .i64 b, .int .i64 c, .int .i64 d, .int .i64 e] (2 * 1)).run Try.prog w = .ok (.int .i64 c) w ∧ (Go.part 3 #[.int .i64 a, .int .i64 b, .int .i64 c, .int .i64 d, .int .i64 e] (3 * 1)).run Try.prog w = .ok (.int .i64 d) w ∧ (Go.part 3 #[.int .i64 a, .int .i64 b, .int .i64 c, .int .i64 d, .int .i64 e] (4 * 1)).run Try.prog w = .ok (.int .i64 e) w :=
    fun a b c d e w => ⟨by kernel_rfl, by kernel_rfl, by kernel_rfl, by kernel_rfl, by kernel_rfl⟩
  have q0 := fun a b c d e w => (pp a b c d e w).1
  have q1 := fun a b c d e w => (pp a b c d e w).2.1
  have q2 := fun a b c d e w => (pp a b c d e w).2.2.1
  have q3 := fun a b c d e w => (pp a b c d e w).2.2.2.1
  have q4 := fun a b c d e w => (pp a b c d e w).2.2.2.2
  simp only [Op.eqItems, Sem.run_bind, q0, q1, q2, q3, q4, e1, Result.andThen_ok, Sem.run_ite, Sem.run_pure]
  clear pp q0 q1 q2 q3 q4 e1
  unfold noneB
  by_cases h0 : c = 0
  · by_cases h1 : n = 0
    · by_cases h2 : s = 0
      · by_cases h3 : d = 0
        · by_cases h4 : g = 0
          · subst h0 h1 h2 h3 h4; simp
          · subst h0 h1 h2 h3; simp [h4]
        · subst h0 h1 h2; simp [h3]
      · subst h0 h1; simp [h2]
    · subst h0; simp [h1]
  · simp [h0]

end Go.Proofs.Ytgfpcamgebnfmaa.Pk
