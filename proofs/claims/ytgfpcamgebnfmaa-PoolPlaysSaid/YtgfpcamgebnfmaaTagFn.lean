/-
  Tag: The program's tags: each function's contract, whatever it is given.
  Tag2: The program's tags: are they right, their words, what words say, names.
  Tag3: The program's tags: what words say.
-/
import Derived.Test.YtgfpcamgebnfmaaTagMath
import Derived.Test.YtgfpcamgebnfmaaBase
import Derived.LoopN
import Derived.ChangeKeysEq

namespace Go.Proofs.Ytgfpcamgebnfmaa.Pk
open Go.RowKit
set_option linter.unusedVariables false
set_option linter.unusedSimpArgs false

/-- The closure of Unpack, which gets a piece of the word that it holds. -/
theorem tpiece_any (b : Nat) (x a n : Int) (w : World) (hb : Blk w b #[.int .u32 x] 36) (h0 : 0 ≤ x) (h1 : x ≤ 4294967295) :
    Calls Try.prog 53 #[.int .i64 a, .int .i64 n, .pointer (some ⟨b, 0, none⟩)] w fun e w' => e = .returned (.int .i64 (getI x a n)) ∧ Drw w w' := by
  have c0 := hb.cell 0 rfl
  have g0 := getI_lo (w := x) (a := a) (n := n) h0
  have g1 := getI_hi (w := x) (a := a) (n := n) h0 h1
  clear hb
  go_enter Try.func53, Try.ntmps53
  go_wp2_with fail
  refine (get_any x a n _ h0 h1).mono ?_
  rintro e w1 ⟨rfl, m, rfl⟩
  go_wp2_with fail
  go_ret
  exact ⟨rfl, m, rfl⟩

theorem arr_ix0 (a b c d e : Int) (w : World) : (Instr.index 95 (.agg #[.int .i64 a, .int .i64 b, .int .i64 c, .int .i64 d, .int .i64 e]) (.int .i64 0)).run Try.prog w = .ok (.int .i64 a) w := by kernel_rfl
theorem arr_ix1 (a b c d e : Int) (w : World) : (Instr.index 95 (.agg #[.int .i64 a, .int .i64 b, .int .i64 c, .int .i64 d, .int .i64 e]) (.int .i64 1)).run Try.prog w = .ok (.int .i64 b) w := by kernel_rfl
theorem arr_ix2 (a b c d e : Int) (w : World) : (Instr.index 95 (.agg #[.int .i64 a, .int .i64 b, .int .i64 c, .int .i64 d, .int .i64 e]) (.int .i64 2)).run Try.prog w = .ok (.int .i64 c) w := by kernel_rfl
theorem arr_ix3 (a b c d e : Int) (w : World) : (Instr.index 95 (.agg #[.int .i64 a, .int .i64 b, .int .i64 c, .int .i64 d, .int .i64 e]) (.int .i64 3)).run Try.prog w = .ok (.int .i64 d) w := by kernel_rfl
theorem arr_ix4 (a b c d e : Int) (w : World) : (Instr.index 95 (.agg #[.int .i64 a, .int .i64 b, .int .i64 c, .int .i64 d, .int .i64 e]) (.int .i64 4)).run Try.prog w = .ok (.int .i64 e) w := by kernel_rfl

theorem arr_eq (c n s d g : Int) (w : World) : (binOp .eql 95 (.agg #[.int .i64 c, .int .i64 n, .int .i64 s, .int .i64 d, .int .i64 g]) (.agg #[.int .i64 0, .int .i64 0, .int .i64 0, .int .i64 0, .int .i64 0])).run Try.prog w = .ok (.bool (noneB c n s d g)) w := by
  obtain ⟨i0, hi, _⟩ := info_parts (show (Try.prog.info? 3).map (fun i => (i.zero, i.size, i.bytes)) = some (some (.int .i64 0), 1, 8) by kernel_rfl)
  have h1 : Try.prog.cellsOf 3 = 1 := by kernel_rfl
  rw [run_eql_struct, show (10000 : Nat) = 9999 + 1 from rfl, run_equalIn_array w 9999 _ _ Try.underlying95 hi, h1, show List.range 5 = [0, 1, 2, 3, 4] from rfl]
  have u := Try.underlying3
  have e1 : ∀ (a : Int) (w : World), (Op.equalIn 9999 3 (.int .i64 a) (.int .i64 0)).run Try.prog w = .ok (a == 0) w := fun a w => run_equalIn_int w 9998 3 .i64 .i64 a 0 u
  have pp : ∀ (a b c d e : Int) (w : World), (Go.part 3 #[.int .i64 a, .int .i64 b, .int .i64 c, .int .i64 d, .int .i64 e] (0 * 1)).run Try.prog w = .ok (.int .i64 a) w ∧ (Go.part 3 #[.int .i64 a, .int .i64 b, .int .i64 c, .int .i64 d, .int .i64 e] (1 * 1)).run Try.prog w = .ok (.int .i64 b) w ∧ (Go.part 3 #[.int .i64 a, .int .i64 b, .int .i64 c, .int .i64 d, .int .i64 e] (2 * 1)).run Try.prog w = .ok (.int .i64 c) w ∧ (Go.part 3 #[.int .i64 a, .int .i64 b, .int .i64 c, .int .i64 d, .int .i64 e] (3 * 1)).run Try.prog w = .ok (.int .i64 d) w ∧ (Go.part 3 #[.int .i64 a, .int .i64 b, .int .i64 c, .int .i64 d, .int .i64 e] (4 * 1)).run Try.prog w = .ok (.int .i64 e) w :=
    fun a b c d e w => ⟨by kernel_rfl, by kernel_rfl, by kernel_rfl, by kernel_rfl, by kernel_rfl⟩
  have q0 := fun a b c d e w => (pp a b c d e w).1
  have q1 := fun a b c d e w => (pp a b c d e w).2.1
  have q2 := fun a b c d e w => (pp a b c d e w).2.2.1
  have q3 := fun a b c d e w => (pp a b c d e w).2.2.2.1
  have q4 := fun a b c d e w => (pp a b c d e w).2.2.2.2
  simp only [Op.eqItems, Sem.run_bind, q0, q1, q2, q3, q4, e1, Result.andThen_ok, Sem.run_ite, Sem.run_pure]
  clear pp q0 q1 q2 q3 q4 e1
  unfold noneB
  by_cases h0 : c = 0
  · by_cases h1 : n = 0
    · by_cases h2 : s = 0
      · by_cases h3 : d = 0
        · by_cases h4 : g = 0
          · subst h0 h1 h2 h3 h4; simp
          · subst h0 h1 h2 h3; simp [h4]
        · subst h0 h1 h2; simp [h3]
      · subst h0 h1; simp [h2]
    · subst h0; simp [h1]
  · simp [h0]

end Go.Proofs.Ytgfpcamgebnfmaa.Pk

namespace Go.Proofs.Ytgfpcamgebnfmaa.Pk
open Go.RowKit
set_option linter.unusedVariables false
set_option linter.unusedSimpArgs false

theorem below_touch {a w w' : World} {b : Nat} (h : Below a.heap.size a w) (t : Touch (fun i => i = b) w w') (hb : a.heap.size ≤ b) : Below a.heap.size a w' :=
  h.trans (t.below (fun i hi => by have : i = b := hi; omega) h.size)

end Go.Proofs.Ytgfpcamgebnfmaa.Pk

namespace Go.Proofs.Ytgfpcamgebnfmaa.Pk
open Go.RowKit
set_option linter.unusedVariables false
set_option linter.unusedSimpArgs false

theorem withMarks_any (c n s d g : Int) (w : World) :
    Calls Try.prog 55 #[.agg #[.int .i64 c, .int .i64 n, .int .i64 s, .int .i64 d, .int .i64 g]] w fun e w' => e = .returned (.agg #[.int .i64 0, .int .i64 c, .int .i64 n, .int .i64 s, .int .i64 d, .int .i64 g, .int .i64 0]) ∧ Below w.heap.size w w' := by
  go_enter Try.func55, Try.ntmps55
  go_wp2_with fail
  exact bodyPost_ret (v := .agg #[.int .i64 0, .int .i64 c, .int .i64 n, .int .i64 s, .int .i64 d, .int .i64 g, .int .i64 0]) (by simp [results, Try.results55, go_sem]) rfl ⟨rfl, by
    repeat refine Below.setCell ?_ (by simp) _
    exact (below_new w _).alloc (by simp) _⟩

set_option maxHeartbeats 1000000 in
theorem tunpack_any (x : Int) (w : World) (h0 : 0 ≤ x) (h1 : x ≤ 4294967295) :
    Calls Try.prog 31 #[.int .u32 x] w fun e w' => e = .returned (.agg #[.int .i64 (uK x), .int .i64 (uC x), .int .i64 (uN x), .int .i64 (uS x), .int .i64 (uD x), .int .i64 (uG x), .int .i64 (uO x)]) ∧ Below w.heap.size w w' := by
  have hmf : ∀ (fn : Fn) (first cap : Array Value) (w : World), (Instr.makeFunc fn first cap).run Try.prog w = .ok (.func fn first cap) w := fun _ _ _ _ => rfl
  go_enter Try.func31, Try.ntmps31
  go_wp2_with fail
  refine wp_loop_rounds 6 ?_
  rw [rounds_succ]
  go_wp2_with fail
  have HA := Lib.hid (((below_new w (.cells #[.int .u32 x] 36)).alloc (by simp) (.cells #[.int .i64 0, .int .i64 0, .int .i64 0, .int .i64 0, .int .i64 0, .int .i64 0, .int .i64 0] 35)).alloc (by simp <;> omega) (.cells #[.int .i64 0, .int .i64 0, .int .i64 0, .int .i64 0, .int .i64 0] 95))
  have HX := Lib.hid (((Blk.new w #[.int .u32 x] 36).alloc (.cells #[.int .i64 0, .int .i64 0, .int .i64 0, .int .i64 0, .int .i64 0, .int .i64 0, .int .i64 0] 35)).alloc (.cells #[.int .i64 0, .int .i64 0, .int .i64 0, .int .i64 0, .int .i64 0] 95))
  have HR := Lib.hid ((Blk.new (w.alloc (.cells #[.int .u32 x] 36)) #[.int .i64 0, .int .i64 0, .int .i64 0, .int .i64 0, .int .i64 0, .int .i64 0, .int .i64 0] 35).alloc (.cells #[.int .i64 0, .int .i64 0, .int .i64 0, .int .i64 0, .int .i64 0] 95))
  have HM := Lib.hid (Blk.new ((w.alloc (.cells #[.int .u32 x] 36)).alloc (.cells #[.int .i64 0, .int .i64 0, .int .i64 0, .int .i64 0, .int .i64 0, .int .i64 0, .int .i64 0] 35)) #[.int .i64 0, .int .i64 0, .int .i64 0, .int .i64 0, .int .i64 0] 95)
  simp only [World.size_alloc] at HR HM
  refine (tpiece_any w.heap.size x 2 1 _ HX.out h0 h1).mono ?_
  rintro e v0 ⟨rfl, hd⟩
  rw [get_uC]
  have HA0 := Lib.hid (HA.out.trans (hd.below _))
  have HX0 := Lib.hid (HX.out.later hd.new)
  have HR0 := Lib.hid (HR.out.later hd.new)
  have HM0 := Lib.hid (HM.out.later hd.new)
  clear hd HA HX HR HM
  have cm := HM0.out.cell 0 rfl
  have fm := HM0.out.free 0
  go_wp2_with fail
  have HA := Lib.hid (below_set HA0.out (p := ⟨w.heap.size + 1 + 1, 0, none⟩) (by simp <;> omega) (.int .i64 (uC x)))
  have HX := Lib.hid (HX0.out.other (p := ⟨w.heap.size + 1 + 1, 0, none⟩) (by simp <;> omega) (.int .i64 (uC x)))
  have HR := Lib.hid (HR0.out.other (p := ⟨w.heap.size + 1 + 1, 0, none⟩) (by simp <;> omega) (.int .i64 (uC x)))
  have HM := Lib.hid (HM0.out.put (cs' := #[.int .i64 (uC x), .int .i64 0, .int .i64 0, .int .i64 0, .int .i64 0]) 0 (.int .i64 (uC x)) rfl)
  clear HA0 HX0 HR0 HM0 cm fm
  rw [rounds_succ]
  go_wp2_with fail
  refine (tpiece_any w.heap.size x 3 1 _ HX.out h0 h1).mono ?_
  rintro e v1 ⟨rfl, hd⟩
  rw [get_uN]
  have HA1 := Lib.hid (HA.out.trans (hd.below _))
  have HX1 := Lib.hid (HX.out.later hd.new)
  have HR1 := Lib.hid (HR.out.later hd.new)
  have HM1 := Lib.hid (HM.out.later hd.new)
  clear hd HA HX HR HM
  have cm := HM1.out.cell 1 rfl
  have fm := HM1.out.free 1
  go_wp2_with fail
  have HA := Lib.hid (below_set HA1.out (p := ⟨w.heap.size + 1 + 1, 1, none⟩) (by simp <;> omega) (.int .i64 (uN x)))
  have HX := Lib.hid (HX1.out.other (p := ⟨w.heap.size + 1 + 1, 1, none⟩) (by simp <;> omega) (.int .i64 (uN x)))
  have HR := Lib.hid (HR1.out.other (p := ⟨w.heap.size + 1 + 1, 1, none⟩) (by simp <;> omega) (.int .i64 (uN x)))
  have HM := Lib.hid (HM1.out.put (cs' := #[.int .i64 (uC x), .int .i64 (uN x), .int .i64 0, .int .i64 0, .int .i64 0]) 1 (.int .i64 (uN x)) rfl)
  clear HA1 HX1 HR1 HM1 cm fm
  rw [rounds_succ]
  go_wp2_with fail
  refine (tpiece_any w.heap.size x 4 1 _ HX.out h0 h1).mono ?_
  rintro e v2 ⟨rfl, hd⟩
  rw [get_uS]
  have HA2 := Lib.hid (HA.out.trans (hd.below _))
  have HX2 := Lib.hid (HX.out.later hd.new)
  have HR2 := Lib.hid (HR.out.later hd.new)
  have HM2 := Lib.hid (HM.out.later hd.new)
  clear hd HA HX HR HM
  have cm := HM2.out.cell 2 rfl
  have fm := HM2.out.free 2
  go_wp2_with fail
  have HA := Lib.hid (below_set HA2.out (p := ⟨w.heap.size + 1 + 1, 2, none⟩) (by simp <;> omega) (.int .i64 (uS x)))
  have HX := Lib.hid (HX2.out.other (p := ⟨w.heap.size + 1 + 1, 2, none⟩) (by simp <;> omega) (.int .i64 (uS x)))
  have HR := Lib.hid (HR2.out.other (p := ⟨w.heap.size + 1 + 1, 2, none⟩) (by simp <;> omega) (.int .i64 (uS x)))
  have HM := Lib.hid (HM2.out.put (cs' := #[.int .i64 (uC x), .int .i64 (uN x), .int .i64 (uS x), .int .i64 0, .int .i64 0]) 2 (.int .i64 (uS x)) rfl)
  clear HA2 HX2 HR2 HM2 cm fm
  rw [rounds_succ]
  go_wp2_with fail
  refine (tpiece_any w.heap.size x 5 1 _ HX.out h0 h1).mono ?_
  rintro e v3 ⟨rfl, hd⟩
  rw [get_uD]
  have HA3 := Lib.hid (HA.out.trans (hd.below _))
  have HX3 := Lib.hid (HX.out.later hd.new)
  have HR3 := Lib.hid (HR.out.later hd.new)
  have HM3 := Lib.hid (HM.out.later hd.new)
  clear hd HA HX HR HM
  have cm := HM3.out.cell 3 rfl
  have fm := HM3.out.free 3
  go_wp2_with fail
  have HA := Lib.hid (below_set HA3.out (p := ⟨w.heap.size + 1 + 1, 3, none⟩) (by simp <;> omega) (.int .i64 (uD x)))
  have HX := Lib.hid (HX3.out.other (p := ⟨w.heap.size + 1 + 1, 3, none⟩) (by simp <;> omega) (.int .i64 (uD x)))
  have HR := Lib.hid (HR3.out.other (p := ⟨w.heap.size + 1 + 1, 3, none⟩) (by simp <;> omega) (.int .i64 (uD x)))
  have HM := Lib.hid (HM3.out.put (cs' := #[.int .i64 (uC x), .int .i64 (uN x), .int .i64 (uS x), .int .i64 (uD x), .int .i64 0]) 3 (.int .i64 (uD x)) rfl)
  clear HA3 HX3 HR3 HM3 cm fm
  rw [rounds_succ]
  go_wp2_with fail
  refine (tpiece_any w.heap.size x 6 1 _ HX.out h0 h1).mono ?_
  rintro e v4 ⟨rfl, hd⟩
  rw [get_uG]
  have HA4 := Lib.hid (HA.out.trans (hd.below _))
  have HX4 := Lib.hid (HX.out.later hd.new)
  have HR4 := Lib.hid (HR.out.later hd.new)
  have HM4 := Lib.hid (HM.out.later hd.new)
  clear hd HA HX HR HM
  have cm := HM4.out.cell 4 rfl
  have fm := HM4.out.free 4
  go_wp2_with fail
  have HA := Lib.hid (below_set HA4.out (p := ⟨w.heap.size + 1 + 1, 4, none⟩) (by simp <;> omega) (.int .i64 (uG x)))
  have HX := Lib.hid (HX4.out.other (p := ⟨w.heap.size + 1 + 1, 4, none⟩) (by simp <;> omega) (.int .i64 (uG x)))
  have HR := Lib.hid (HR4.out.other (p := ⟨w.heap.size + 1 + 1, 4, none⟩) (by simp <;> omega) (.int .i64 (uG x)))
  have HM := Lib.hid (HM4.out.put (cs' := #[.int .i64 (uC x), .int .i64 (uN x), .int .i64 (uS x), .int .i64 (uD x), .int .i64 (uG x)]) 4 (.int .i64 (uG x)) rfl)
  clear HA4 HX4 HR4 HM4 cm fm
  generalize hv : v4.setCell _ _ = v5 at *
  clear hv
  have m0 := HM.out.cell 0 rfl
  have m1 := HM.out.cell 1 rfl
  have m2 := HM.out.cell 2 rfl
  have m3 := HM.out.cell 3 rfl
  have m4 := HM.out.cell 4 rfl
  rw [rounds_succ]
  go_wp2_with fail
  refine (withMarks_any _ _ _ _ _ _).mono ?_
  rintro e v6 ⟨rfl, hb⟩
  have HA6 := Lib.hid (below_step HA.out hb)
  have HX6 := Lib.hid (HX.out.later hb)
  have HR6 := Lib.hid (HR.out.later hb)
  have hz6 := HX6.out.lt
  have hy6 := HR6.out.lt
  clear hb HA HX HR HM m0 m1 m2 m3 m4
  go_wp2_with fail
  refine (tpiece_any w.heap.size x 0 2 _ (HX6.out.alloc _) h0 h1).mono ?_
  rintro e v7 ⟨rfl, hd⟩
  rw [get_uK]
  have HT7 := Lib.hid ((Blk.new v6 #[.int .i64 0, .int .i64 (uC x), .int .i64 (uN x), .int .i64 (uS x), .int .i64 (uD x), .int .i64 (uG x), .int .i64 0] 35).later hd.new)
  have HA7 := Lib.hid ((below_step HA6.out (below_new v6 _)).trans (hd.below _))
  have HX7 := Lib.hid ((HX6.out.alloc _).later hd.new)
  have HR7 := Lib.hid ((HR6.out.alloc _).later hd.new)
  clear hd HA6 HX6 HR6
  have cm := HT7.out.cell 0 rfl
  have fm := HT7.out.free 0
  go_wp2_with fail
  have HA := Lib.hid (below_set HA7.out (p := ⟨v6.heap.size, 0, none⟩) (by simp <;> omega) (.int .i64 (uK x)))
  have HX := Lib.hid (HX7.out.other (p := ⟨v6.heap.size, 0, none⟩) (by simp <;> omega) (.int .i64 (uK x)))
  have HR := Lib.hid (HR7.out.other (p := ⟨v6.heap.size, 0, none⟩) (by simp <;> omega) (.int .i64 (uK x)))
  have HT := Lib.hid (HT7.out.put (cs' := #[.int .i64 (uK x), .int .i64 (uC x), .int .i64 (uN x), .int .i64 (uS x), .int .i64 (uD x), .int .i64 (uG x), .int .i64 0]) 0 (.int .i64 (uK x)) rfl)
  clear HA7 HX7 HR7 HT7 cm fm
  refine (tpiece_any w.heap.size x 8 24 _ HX.out h0 h1).mono ?_
  rintro e v8 ⟨rfl, hd⟩
  rw [get_uO h0 h1]
  have HT8 := Lib.hid (HT.out.later hd.new)
  have HA8 := Lib.hid (HA.out.trans (hd.below _))
  have HR8 := Lib.hid (HR.out.later hd.new)
  clear hd HA HX HR HT
  have cm := HT8.out.cell 6 rfl
  have fm := HT8.out.free 6
  have e0 := HT8.out.cell 0 rfl
  have e1 := HT8.out.cell 1 rfl
  have e2 := HT8.out.cell 2 rfl
  have e3 := HT8.out.cell 3 rfl
  have e4 := HT8.out.cell 4 rfl
  have e5 := HT8.out.cell 5 rfl
  have r0 := HR8.out.cell 0 rfl
  have r1 := HR8.out.cell 1 rfl
  have r2 := HR8.out.cell 2 rfl
  have r3 := HR8.out.cell 3 rfl
  have r4 := HR8.out.cell 4 rfl
  have r5 := HR8.out.cell 5 rfl
  have r6 := HR8.out.cell 6 rfl
  have q0 := HR8.out.free 0
  have q1 := HR8.out.free 1
  have q2 := HR8.out.free 2
  have q3 := HR8.out.free 3
  have q4 := HR8.out.free 4
  have q5 := HR8.out.free 5
  have q6 := HR8.out.free 6
  have hne : ¬ v6.heap.size = w.heap.size + 1 := by omega
  have hne' : ¬ w.heap.size + 1 = v6.heap.size := by omega
  have hz8 := HR8.out.lt
  have hy8 := HT8.out.lt
  go_wp2_with fail
  exact bodyPost_ret (v := .agg #[.int .i64 (uK x), .int .i64 (uC x), .int .i64 (uN x), .int .i64 (uS x), .int .i64 (uD x), .int .i64 (uG x), .int .i64 (uO x)]) (by simp [results, Try.results31, go_sem, hne, r0, r1, r2, r3, r4, r5, r6]) rfl ⟨rfl, by
    repeat refine Below.setCell ?_ (by simp <;> omega) _
    exact HA8.out⟩

end Go.Proofs.Ytgfpcamgebnfmaa.Pk
