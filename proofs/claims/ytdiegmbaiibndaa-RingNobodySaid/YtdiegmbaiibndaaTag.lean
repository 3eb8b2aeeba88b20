/-
  The program's tags: each function's contract, whatever it is given.
-/
import Derived.Test.YtdiegmbaiibndaaTagMath
import Derived.Test.YtdiegmbaiibndaaTouch
import Derived.LoopN
import Derived.ChangeKeysEq
namespace Go.Proofs.Ytdiegmbaiibndaa.Pk
open Go.RowKit
set_option linter.unusedVariables false
set_option linter.unusedSimpArgs false

theorem tbelow_any (n b : Int) (w : World) : Calls Try.prog 75 #[.int .i64 n, .int .i64 b] w fun e w' => e = .returned (.bool (inB n b)) ∧ w = w' := by
  by_cases h1 : 0 ≤ n
  · by_cases h2 : n < b
    · have h3 := inB_mk ⟨h1, h2⟩
      go_enter Try.func75, Try.ntmps75
      go_wp2
      go_ret
      first | exact ⟨rfl, rfl⟩ | exact ⟨ret_bool h3.symm, rfl⟩
    · have h3 := inB_mk' (n := n) (b := b) (fun h => h2 h.2)
      go_enter Try.func75, Try.ntmps75
      go_wp2
      go_ret
      first | exact ⟨rfl, rfl⟩ | exact ⟨ret_bool h3.symm, rfl⟩
  · have h3 := inB_mk' (n := n) (b := b) (fun h => h1 h.1)
    go_enter Try.func75, Try.ntmps75
    go_wp2
    go_ret
    first | exact ⟨rfl, rfl⟩ | exact ⟨ret_bool h3.symm, rfl⟩

/-- The closure of Pack, which sets a piece of the word that it holds. -/
theorem tset_any (b : Nat) (x a n v : Int) (w : World) (hb : Blk w b #[.int .u32 x] 46) (h0 : 0 ≤ x) (h1 : x ≤ 4294967295) (hv0 : 0 ≤ v) (hv1 : v ≤ 4294967295) :
    Calls Try.prog 64 #[.int .i64 a, .int .i64 n, .int .i64 v, .pointer (some ⟨b, 0, none⟩)] w fun e w' => e = .returned (.tuple #[]) ∧ Blk w' b #[.int .u32 (putV x a n v)] 46 ∧ Touch (fun i => i = b) w w' := by
  have c0 := hb.cell 0 rfl
  have f0 := hb.free 0
  have HB := Lib.hid hb
  clear hb
  go_enter Try.func64, Try.ntmps64
  go_wp2_with fail
  refine (put_any x a n v _ h0 h1 hv0 hv1).mono ?_
  rintro e w1 ⟨rfl, m, rfl⟩
  go_wp2_with fail
  go_end0
  exact ⟨rfl, (HB.out.drewN m).put 0 _ rfl, ((Touch.refl (fun i => i = b) w).drewN m).setCell (p := ⟨b, 0, none⟩) (fun _ => rfl) _⟩

/-- The closure of Unpack, which gets a piece of the word that it holds. -/
theorem tpiece_any (b : Nat) (x a n : Int) (w : World) (hb : Blk w b #[.int .u32 x] 46) (h0 : 0 ≤ x) (h1 : x ≤ 4294967295) :
    Calls Try.prog 60 #[.int .i64 a, .int .i64 n, .pointer (some ⟨b, 0, none⟩)] w fun e w' => e = .returned (.int .i64 (getI x a n)) ∧ Drw w w' := by
  have c0 := hb.cell 0 rfl
  have g0 := getI_lo (w := x) (a := a) (n := n) h0
  have g1 := getI_hi (w := x) (a := a) (n := n) h0 h1
  clear hb
  go_enter Try.func60, Try.ntmps60
  go_wp2_with fail
  refine (get_any x a n _ h0 h1).mono ?_
  rintro e w1 ⟨rfl, m, rfl⟩
  go_wp2_with fail
  go_ret
  exact ⟨rfl, m, rfl⟩

theorem arr_ix0 (a b c d e : Int) (w : World) : (Instr.index 104 (.agg #[.int .i64 a, .int .i64 b, .int .i64 c, .int .i64 d, .int .i64 e]) (.int .i64 0)).run Try.prog w = .ok (.int .i64 a) w := by kernel_rfl
theorem arr_ix1 (a b c d e : Int) (w : World) : (Instr.index 104 (.agg #[.int .i64 a, .int .i64 b, .int .i64 c, .int .i64 d, .int .i64 e]) (.int .i64 1)).run Try.prog w = .ok (.int .i64 b) w := by kernel_rfl
theorem arr_ix2 (a b c d e : Int) (w : World) : (Instr.index 104 (.agg #[.int .i64 a, .int .i64 b, .int .i64 c, .int .i64 d, .int .i64 e]) (.int .i64 2)).run Try.prog w = .ok (.int .i64 c) w := by kernel_rfl
theorem arr_ix3 (a b c d e : Int) (w : World) : (Instr.index 104 (.agg #[.int .i64 a, .int .i64 b, .int .i64 c, .int .i64 d, .int .i64 e]) (.int .i64 3)).run Try.prog w = .ok (.int .i64 d) w := by kernel_rfl
theorem arr_ix4 (a b c d e : Int) (w : World) : (Instr.index 104 (.agg #[.int .i64 a, .int .i64 b, .int .i64 c, .int .i64 d, .int .i64 e]) (.int .i64 4)).run Try.prog w = .ok (.int .i64 e) w := by kernel_rfl

theorem arr_eq (c n s d g : Int) (w : World) : (binOp .eql 104 (.agg #[.int .i64 c, .int .i64 n, .int .i64 s, .int .i64 d, .int .i64 g]) (.agg #[.int .i64 0, .int .i64 0, .int .i64 0, .int .i64 0, .int .i64 0])).run Try.prog w = .ok (.bool (noneB c n s d g)) w := by
  obtain ⟨i0, hi, _⟩ := info_parts (show (Try.prog.info? 3).map (fun i => (i.zero, i.size, i.bytes)) = some (some (.int .i64 0), 1, 8) by kernel_rfl)
  have h1 : Try.prog.cellsOf 3 = 1 := by kernel_rfl
  rw [run_eql_struct, show (10000 : Nat) = 9999 + 1 from rfl, run_equalIn_array w 9999 _ _ Try.underlying104 hi, h1, show List.range 5 = [0, 1, 2, 3, 4] from rfl]
  have u := Try.underlying3
  have e1 : ∀ (a : Int) (w : World), (Op.equalIn 9999 3 (.int .i64 a) (.int .i64 0)).run Try.prog w = .ok (a == 0) w := fun a w => run_equalIn_int w 9998 3 .i64 .i64 a 0 u
  have pp : ∀ (a b c d e : Int) (w : World), (Go.part 3 #[.int .i64 a, .int .i64 b, .int .i64 c, .int .i64 d, .int .i64 e] (0 * 1)).run Try.prog w = .ok (.int .i64 a) w ∧ (Go.part 3 #[.int .i64 a, .int .i64 b, .int .i64 c, .int .i64 d, .int .i64 e] (1 * 1)).run Try.prog w = .ok (.int .i64 b) w ∧ (Go.part 3 #[.int .i64 a, .int .i64 b, .int .i64 c, .int .i64 d, .int .i64 e] (2 * 1)).run Try.prog w = .ok (.int .i64 c) w ∧ (Go.part 3 #[.int .i64 a, .int .i64 b, .int .i64 c, .int .i64 d, .int .i64 e] (3 * 1)).run Try.prog w = .ok (.int .i64 d) w ∧ (Go.part 3 #[.int .i64 a, .int .i64 b, .int .i64 c, .int .i64 d, .int .i64 e] (4 * 1)).run Try.prog w = .ok (.int .i64 e) w :=
    fun a b c d e w => ⟨by kernel_rfl, by kernel_rfl, by kernel_rfl, by kernel_rfl, by kernel_rfl⟩
  have q0 := fun a b c d e w => (pp a b c d e w).1
  have q1 := fun a b c d e w => (pp a b c d e w).2.1
  have q2 := fun a b c d e w => (pp a b c d e w).2.2.1
  have q3 := fun a b c d e w => (pp a b c d e w).2.2.2.1
  have q4 := fun a b c d e w => (pp a b c d e w).2.2.2.2
  simp only [Op.eqItems, Sem.run_bind, q0, q1, q2, q3, q4, e1, Result.andThen_ok, Sem.run_ite, Sem.run_pure]
  clear pp q0 q1 q2 q3 q4 e1
  unfold noneB
  by_cases h0 : c = 0
  · by_cases h1 : n = 0
    · by_cases h2 : s = 0
      · by_cases h3 : d = 0
        · by_cases h4 : g = 0
          · subst h0 h1 h2 h3 h4; simp
          · subst h0 h1 h2 h3; simp [h4]
        · subst h0 h1 h2; simp [h3]
      · subst h0 h1; simp [h2]
    · subst h0; simp [h1]
  · simp [h0]

theorem marksOf_any (k c n s d g o : Int) (w : World) :
    Calls Try.prog 66 #[.agg #[.int .i64 k, .int .i64 c, .int .i64 n, .int .i64 s, .int .i64 d, .int .i64 g, .int .i64 o]] w fun e w' => e = .returned (.agg #[.int .i64 c, .int .i64 n, .int .i64 s, .int .i64 d, .int .i64 g]) ∧ Below w.heap.size w w' := by
  go_enter Try.func66, Try.ntmps66
  go_wp2_with fail
  exact bodyPost_ret (v := .agg #[.int .i64 c, .int .i64 n, .int .i64 s, .int .i64 d, .int .i64 g]) (by simp [results, Try.results66, go_sem]) rfl ⟨rfl, by
    repeat refine Below.setCell ?_ (by simp) _
    exact (below_new w _).alloc (by simp) _⟩

theorem areBits_yes (c n s d g : Int) (w : World) (hc : inB c 2 = true) (hn : inB n 2 = true) (hs : inB s 2 = true) (hd : inB d 2 = true) (hg : inB g 2 = true) :
    Calls Try.prog 76 #[.agg #[.int .i64 c, .int .i64 n, .int .i64 s, .int .i64 d, .int .i64 g]] w fun e w' => e = .returned (.bool true) ∧ Below w.heap.size w w' := by
  have x0 := arr_ix0 c n s d g
  have x1 := arr_ix1 c n s d g
  have x2 := arr_ix2 c n s d g
  have x3 := arr_ix3 c n s d g
  have x4 := arr_ix4 c n s d g
  go_enter Try.func76, Try.ntmps76
  go_wp2_with fail
  refine wp_loop_rounds 6 ?_
  rw [rounds_succ]
  go_wp2_with fail
  refine (tbelow_any _ _ _).mono ?_
  rintro e w1 ⟨rfl, rfl⟩
  go_wp2_with fail
  rw [rounds_succ]
  go_wp2_with fail
  refine (tbelow_any _ _ _).mono ?_
  rintro e w1 ⟨rfl, rfl⟩
  go_wp2_with fail
  rw [rounds_succ]
  go_wp2_with fail
  refine (tbelow_any _ _ _).mono ?_
  rintro e w1 ⟨rfl, rfl⟩
  go_wp2_with fail
  rw [rounds_succ]
  go_wp2_with fail
  refine (tbelow_any _ _ _).mono ?_
  rintro e w1 ⟨rfl, rfl⟩
  go_wp2_with fail
  rw [rounds_succ]
  go_wp2_with fail
  refine (tbelow_any _ _ _).mono ?_
  rintro e w1 ⟨rfl, rfl⟩
  go_wp2_with fail
  rw [rounds_succ]
  go_wp2_with fail
  go_ret
  exact ⟨rfl, below_new w _⟩

theorem areBits_no0 (c n s d g : Int) (w : World)  (hc : inB c 2 = false) :
    Calls Try.prog 76 #[.agg #[.int .i64 c, .int .i64 n, .int .i64 s, .int .i64 d, .int .i64 g]] w fun e w' => e = .returned (.bool false) ∧ Below w.heap.size w w' := by
  have x0 := arr_ix0 c n s d g
  go_enter Try.func76, Try.ntmps76
  go_wp2_with fail
  refine wp_loop_rounds 6 ?_
  rw [rounds_succ]
  go_wp2_with fail
  refine (tbelow_any _ _ _).mono ?_
  rintro e w1 ⟨rfl, rfl⟩
  go_wp2_with fail
  go_ret
  exact ⟨rfl, below_new w _⟩

theorem areBits_no1 (c n s d g : Int) (w : World) (hc : inB c 2 = true) (hn : inB n 2 = false) :
    Calls Try.prog 76 #[.agg #[.int .i64 c, .int .i64 n, .int .i64 s, .int .i64 d, .int .i64 g]] w fun e w' => e = .returned (.bool false) ∧ Below w.heap.size w w' := by
  have x0 := arr_ix0 c n s d g
  have x1 := arr_ix1 c n s d g
  go_enter Try.func76, Try.ntmps76
  go_wp2_with fail
  refine wp_loop_rounds 6 ?_
  rw [rounds_succ]
  go_wp2_with fail
  refine (tbelow_any _ _ _).mono ?_
  rintro e w1 ⟨rfl, rfl⟩
  go_wp2_with fail
  rw [rounds_succ]
  go_wp2_with fail
  refine (tbelow_any _ _ _).mono ?_
  rintro e w1 ⟨rfl, rfl⟩
  go_wp2_with fail
  go_ret
  exact ⟨rfl, below_new w _⟩

theorem areBits_no2 (c n s d g : Int) (w : World) (hc : inB c 2 = true) (hn : inB n 2 = true) (hs : inB s 2 = false) :
    Calls Try.prog 76 #[.agg #[.int .i64 c, .int .i64 n, .int .i64 s, .int .i64 d, .int .i64 g]] w fun e w' => e = .returned (.bool false) ∧ Below w.heap.size w w' := by
  have x0 := arr_ix0 c n s d g
  have x1 := arr_ix1 c n s d g
  have x2 := arr_ix2 c n s d g
  go_enter Try.func76, Try.ntmps76
  go_wp2_with fail
  refine wp_loop_rounds 6 ?_
  rw [rounds_succ]
  go_wp2_with fail
  refine (tbelow_any _ _ _).mono ?_
  rintro e w1 ⟨rfl, rfl⟩
  go_wp2_with fail
  rw [rounds_succ]
  go_wp2_with fail
  refine (tbelow_any _ _ _).mono ?_
  rintro e w1 ⟨rfl, rfl⟩
  go_wp2_with fail
  rw [rounds_succ]
  go_wp2_with fail
  refine (tbelow_any _ _ _).mono ?_
  rintro e w1 ⟨rfl, rfl⟩
  go_wp2_with fail
  go_ret
  exact ⟨rfl, below_new w _⟩

theorem areBits_no3 (c n s d g : Int) (w : World) (hc : inB c 2 = true) (hn : inB n 2 = true) (hs : inB s 2 = true) (hd : inB d 2 = false) :
    Calls Try.prog 76 #[.agg #[.int .i64 c, .int .i64 n, .int .i64 s, .int .i64 d, .int .i64 g]] w fun e w' => e = .returned (.bool false) ∧ Below w.heap.size w w' := by
  have x0 := arr_ix0 c n s d g
  have x1 := arr_ix1 c n s d g
  have x2 := arr_ix2 c n s d g
  have x3 := arr_ix3 c n s d g
  go_enter Try.func76, Try.ntmps76
  go_wp2_with fail
  refine wp_loop_rounds 6 ?_
  rw [rounds_succ]
  go_wp2_with fail
  refine (tbelow_any _ _ _).mono ?_
  rintro e w1 ⟨rfl, rfl⟩
  go_wp2_with fail
  rw [rounds_succ]
  go_wp2_with fail
  refine (tbelow_any _ _ _).mono ?_
  rintro e w1 ⟨rfl, rfl⟩
  go_wp2_with fail
  rw [rounds_succ]
  go_wp2_with fail
  refine (tbelow_any _ _ _).mono ?_
  rintro e w1 ⟨rfl, rfl⟩
  go_wp2_with fail
  rw [rounds_succ]
  go_wp2_with fail
  refine (tbelow_any _ _ _).mono ?_
  rintro e w1 ⟨rfl, rfl⟩
  go_wp2_with fail
  go_ret
  exact ⟨rfl, below_new w _⟩

theorem areBits_no4 (c n s d g : Int) (w : World) (hc : inB c 2 = true) (hn : inB n 2 = true) (hs : inB s 2 = true) (hd : inB d 2 = true) (hg : inB g 2 = false) :
    Calls Try.prog 76 #[.agg #[.int .i64 c, .int .i64 n, .int .i64 s, .int .i64 d, .int .i64 g]] w fun e w' => e = .returned (.bool false) ∧ Below w.heap.size w w' := by
  have x0 := arr_ix0 c n s d g
  have x1 := arr_ix1 c n s d g
  have x2 := arr_ix2 c n s d g
  have x3 := arr_ix3 c n s d g
  have x4 := arr_ix4 c n s d g
  go_enter Try.func76, Try.ntmps76
  go_wp2_with fail
  refine wp_loop_rounds 6 ?_
  rw [rounds_succ]
  go_wp2_with fail
  refine (tbelow_any _ _ _).mono ?_
  rintro e w1 ⟨rfl, rfl⟩
  go_wp2_with fail
  rw [rounds_succ]
  go_wp2_with fail
  refine (tbelow_any _ _ _).mono ?_
  rintro e w1 ⟨rfl, rfl⟩
  go_wp2_with fail
  rw [rounds_succ]
  go_wp2_with fail
  refine (tbelow_any _ _ _).mono ?_
  rintro e w1 ⟨rfl, rfl⟩
  go_wp2_with fail
  rw [rounds_succ]
  go_wp2_with fail
  refine (tbelow_any _ _ _).mono ?_
  rintro e w1 ⟨rfl, rfl⟩
  go_wp2_with fail
  rw [rounds_succ]
  go_wp2_with fail
  refine (tbelow_any _ _ _).mono ?_
  rintro e w1 ⟨rfl, rfl⟩
  go_wp2_with fail
  go_ret
  exact ⟨rfl, below_new w _⟩

theorem areBits_any (c n s d g : Int) (w : World) :
    Calls Try.prog 76 #[.agg #[.int .i64 c, .int .i64 n, .int .i64 s, .int .i64 d, .int .i64 g]] w fun e w' => e = .returned (.bool (bitsB c n s d g)) ∧ Below w.heap.size w w' := by
  unfold bitsB
  cases hc : inB c 2 with
  | false => exact areBits_no0 c n s d g w hc
  | true =>
    cases hn : inB n 2 with
    | false => exact areBits_no1 c n s d g w hc hn
    | true =>
      cases hs : inB s 2 with
      | false => exact areBits_no2 c n s d g w hc hn hs
      | true =>
        cases hd : inB d 2 with
        | false => exact areBits_no3 c n s d g w hc hn hs hd
        | true =>
          cases hg : inB g 2 with
          | false => exact areBits_no4 c n s d g w hc hn hs hd hg
          | true => exact areBits_yes c n s d g w hc hn hs hd hg

end Go.Proofs.Ytdiegmbaiibndaa.Pk
