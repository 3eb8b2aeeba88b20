/-
  The program's tags: are they right, their words, what words say, names.
-/
import Derived.Test.YtdiegmbaiibndaaTag
namespace Go.Proofs.Ytdiegmbaiibndaa.Pk
open Go.RowKit
set_option linter.unusedVariables false
set_option linter.unusedSimpArgs false

theorem tright_k (k c n s d g o : Int) (w : World) (h : inB k 4 = false) :
    Calls Try.prog 63 #[.agg #[.int .i64 k, .int .i64 c, .int .i64 n, .int .i64 s, .int .i64 d, .int .i64 g, .int .i64 o]] w fun e w' => e = .returned (.bool false) ∧ Below w.heap.size w w' := by
  go_enter Try.func63, Try.ntmps63
  go_wp2_with fail
  refine (tbelow_any _ _ _).mono ?_
  rintro e w1 ⟨rfl, rfl⟩
  go_wp2_with fail
  go_ret
  exact ⟨rfl, below_new w _⟩

theorem tright_o (k c n s d g o : Int) (w : World) (hk : inB k 4 = true) (h : inB o 1048576 = false) :
    Calls Try.prog 63 #[.agg #[.int .i64 k, .int .i64 c, .int .i64 n, .int .i64 s, .int .i64 d, .int .i64 g, .int .i64 o]] w fun e w' => e = .returned (.bool false) ∧ Below w.heap.size w w' := by
  go_enter Try.func63, Try.ntmps63
  go_wp2_with fail
  refine (tbelow_any _ _ _).mono ?_
  rintro e w1 ⟨rfl, rfl⟩
  go_wp2_with fail
  refine (tbelow_any _ _ _).mono ?_
  rintro e w1 ⟨rfl, rfl⟩
  go_wp2_with fail
  go_ret
  exact ⟨rfl, below_new w _⟩

theorem tright_no (k c n s d g o : Int) (w : World) (hk : inB k 4 = true) (h : inB o 1048576 = true) (h3 : ¬ k = 3) (h0 : ¬ o = 0) :
    Calls Try.prog 63 #[.agg #[.int .i64 k, .int .i64 c, .int .i64 n, .int .i64 s, .int .i64 d, .int .i64 g, .int .i64 o]] w fun e w' => e = .returned (.bool false) ∧ Below w.heap.size w w' := by
  have b3 : (k != 3) = true := by simp [h3]
  have b0 : (o != 0) = true := by simp [h0]
  go_enter Try.func63, Try.ntmps63
  go_wp2_with fail
  refine (tbelow_any _ _ _).mono ?_
  rintro e w1 ⟨rfl, rfl⟩
  go_wp2_with fail
  refine (tbelow_any _ _ _).mono ?_
  rintro e w1 ⟨rfl, rfl⟩
  go_wp2_with fail
  go_ret
  exact ⟨rfl, below_new w _⟩

theorem tright_3 (c n s d g o : Int) (w : World) (hk : inB 3 4 = true) (h : inB o 1048576 = true) :
    Calls Try.prog 63 #[.agg #[.int .i64 3, .int .i64 c, .int .i64 n, .int .i64 s, .int .i64 d, .int .i64 g, .int .i64 o]] w fun e w' => e = .returned (.bool (noneB c n s d g)) ∧ Below w.heap.size w w' := by
  have q := arr_eq c n s d g
  go_enter Try.func63, Try.ntmps63
  go_wp2_with fail
  refine (tbelow_any _ _ _).mono ?_
  rintro e w1 ⟨rfl, rfl⟩
  go_wp2_with fail
  refine (tbelow_any _ _ _).mono ?_
  rintro e w1 ⟨rfl, rfl⟩
  go_wp2_with fail
  refine (marksOf_any _ _ _ _ _ _ _ _).mono ?_
  rintro e w2 ⟨rfl, hb⟩
  have HB := Lib.hid hb
  have hz : w.heap.size < w2.heap.size := by have := hb.size; simp at this; omega
  have hBk := (Blk.new w _ _).later hb
  have hc := hBk.cell 0 rfl
  clear hBk
  clear hb
  go_wp2_with fail
  go_ret
  exact ⟨rfl, (below_step (below_new w _) HB.out).trans ((below_new w2 _).mono (by have := HB.out.size; simp at this; omega))⟩

theorem tright_0 (c n s d g : Int) (w : World) (hk : inB 0 4 = true) (h : inB 0 1048576 = true) :
    Calls Try.prog 63 #[.agg #[.int .i64 0, .int .i64 c, .int .i64 n, .int .i64 s, .int .i64 d, .int .i64 g, .int .i64 0]] w fun e w' => e = .returned (.bool (noneB c n s d g)) ∧ Below w.heap.size w w' := by
  have q := arr_eq c n s d g
  go_enter Try.func63, Try.ntmps63
  go_wp2_with fail
  refine (tbelow_any _ _ _).mono ?_
  rintro e w1 ⟨rfl, rfl⟩
  go_wp2_with fail
  refine (tbelow_any _ _ _).mono ?_
  rintro e w1 ⟨rfl, rfl⟩
  go_wp2_with fail
  refine (marksOf_any _ _ _ _ _ _ _ _).mono ?_
  rintro e w2 ⟨rfl, hb⟩
  have HB := Lib.hid hb
  have hz : w.heap.size < w2.heap.size := by have := hb.size; simp at this; omega
  have hBk := (Blk.new w _ _).later hb
  have hc := hBk.cell 0 rfl
  clear hBk
  clear hb
  go_wp2_with fail
  go_ret
  exact ⟨rfl, (below_step (below_new w _) HB.out).trans ((below_new w2 _).mono (by have := HB.out.size; simp at this; omega))⟩

theorem tright_s (k c n s d g : Int) (w : World) (hk : inB k 4 = true) (h : inB 0 1048576 = true) (h0 : ¬ k = 0) (h3 : ¬ k = 3) :
    Calls Try.prog 63 #[.agg #[.int .i64 k, .int .i64 c, .int .i64 n, .int .i64 s, .int .i64 d, .int .i64 g, .int .i64 0]] w fun e w' => e = .returned (.bool (bitsB c n s d g)) ∧ Below w.heap.size w w' := by
  have b3 : (k != 3) = true := by simp [h3]
  have b4 : (k == 3) = false := by simp [h3]
  have b0 : (k == 0) = false := by simp [h0]
  go_enter Try.func63, Try.ntmps63
  go_wp2_with fail
  refine (tbelow_any _ _ _).mono ?_
  rintro e w1 ⟨rfl, rfl⟩
  go_wp2_with fail
  refine (tbelow_any _ _ _).mono ?_
  rintro e w1 ⟨rfl, rfl⟩
  go_wp2_with fail
  refine (marksOf_any _ _ _ _ _ _ _ _).mono ?_
  rintro e w2 ⟨rfl, hb⟩
  have HB := Lib.hid hb
  have hz : w.heap.size < w2.heap.size := by have := hb.size; simp at this; omega
  have hBk := (Blk.new w _ _).later hb
  have hc := hBk.cell 0 rfl
  clear hBk
  clear hb
  go_wp2_with fail
  refine (areBits_any _ _ _ _ _ _).mono ?_
  rintro e w3 ⟨rfl, hb3⟩
  have HB3 := Lib.hid hb3
  clear hb3
  go_wp2_with fail
  go_ret
  exact ⟨rfl, below_step (below_step (below_step (below_new w _) HB.out) (below_new w2 _)) HB3.out⟩

theorem tright_any (k c n s d g o : Int) (w : World) :
    Calls Try.prog 63 #[.agg #[.int .i64 k, .int .i64 c, .int .i64 n, .int .i64 s, .int .i64 d, .int .i64 g, .int .i64 o]] w fun e w' => e = .returned (.bool (rightB k c n s d g o)) ∧ Below w.heap.size w w' := by
  cases hk : inB k 4 with
  | false => rw [rgt_k hk]; exact tright_k k c n s d g o w hk
  | true =>
    cases ho : inB o 1048576 with
    | false => rw [rgt_o ho]; exact tright_o k c n s d g o w hk ho
    | true =>
      by_cases h3 : k = 3
      · subst h3; rw [rgt_3 ho]; exact tright_3 c n s d g o w hk ho
      · by_cases h0 : o = 0
        · subst h0
          by_cases hk0 : k = 0
          · subst hk0; rw [rgt_0]; exact tright_0 c n s d g w hk ho
          · rw [rgt_s hk hk0 h3]; exact tright_s k c n s d g w hk ho hk0 h3
        · rw [rgt_no h3 h0]; exact tright_no k c n s d g o w hk ho h3 h0

theorem below_touch {a w w' : World} {b : Nat} (h : Below a.heap.size a w) (t : Touch (fun i => i = b) w w') (hb : a.heap.size ≤ b) : Below a.heap.size a w' :=
  h.trans (t.below (fun i hi => by have : i = b := hi; omega) h.size)

theorem tpack_no (k c n s d g o : Int) (w : World) (hr : rightB k c n s d g o = false) :
    Calls Try.prog 50 #[.agg #[.int .i64 k, .int .i64 c, .int .i64 n, .int .i64 s, .int .i64 d, .int .i64 g, .int .i64 o]] w fun e w' => e = .returned (.tuple #[.int .u32 0, .int .i64 2]) ∧ Below w.heap.size w w' := by
  go_enter Try.func50, Try.ntmps50
  go_wp2_with fail
  refine (tright_any _ _ _ _ _ _ _ _).mono ?_
  rintro e w1 ⟨rfl, hb⟩
  have HB := Lib.hid hb
  clear hb
  go_wp2_with fail
  go_ret2
  exact ⟨rfl, below_step (below_new w _) HB.out⟩

set_option maxHeartbeats 1000000 in
theorem tpack_yes (k c n s d g o : Int) (w : World) (hr : rightB k c n s d g o = true) :
    Calls Try.prog 50 #[.agg #[.int .i64 k, .int .i64 c, .int .i64 n, .int .i64 s, .int .i64 d, .int .i64 g, .int .i64 o]] w fun e w' => e = .returned (.tuple #[.int .u32 (packI k c n s d g o), .int .i64 0]) ∧ Below w.heap.size w w' := by
  have hmf : ∀ (fn : Fn) (first cap : Array Value) (w : World), (Instr.makeFunc fn first cap).run Try.prog w = .ok (.func fn first cap) w := fun _ _ _ _ => rfl
  have RT := rightB_yes hr
  have HP := Lib.hid (pk6_eq RT)
  obtain ⟨⟨k0, k1⟩, ⟨o0, o1⟩, _, ⟨c0, c1⟩, ⟨n0, n1⟩, ⟨s0, s1⟩, ⟨d0, d1⟩, ⟨g0, g1⟩, _⟩ := RT
  have x0 := arr_ix0 c n s d g
  have x1 := arr_ix1 c n s d g
  have x2 := arr_ix2 c n s d g
  have x3 := arr_ix3 c n s d g
  have x4 := arr_ix4 c n s d g
  go_enter Try.func50, Try.ntmps50
  go_wp2_with fail
  refine (tright_any _ _ _ _ _ _ _ _).mono ?_
  rintro e w1 ⟨rfl, hb⟩
  have HB := Lib.hid (below_step (below_new w _) hb)
  have hz : w.heap.size < w1.heap.size := by have := hb.size; simp at this; omega
  have HT := Lib.hid ((Blk.new w _ _).later hb)
  have t0 := HT.out.cell 0 rfl
  have t6 := HT.out.cell 6 rfl
  clear hb
  go_wp2_with fail
  refine (tset_any w1.heap.size 0 0 2 k _ (Blk.new w1 _ _) (by decide) (by decide) (by omega) (by omega)).mono ?_
  rintro e w2 ⟨rfl, hW, hT⟩
  have HW := Lib.hid (show Blk w2 w1.heap.size #[.int .u32 (pk0 k)] 46 from hW)
  have HB2 := Lib.hid (below_touch (below_step HB.out (below_new w1 _)) hT (by omega))
  have HT2 := Lib.hid ((HT.out.alloc _).touch hT (by omega))
  clear hW hT t0 t6 HB HT
  have t0 := HT2.out.cell 0 rfl
  have t1 := HT2.out.cell 1 rfl
  have t2 := HT2.out.cell 2 rfl
  have t3 := HT2.out.cell 3 rfl
  have t4 := HT2.out.cell 4 rfl
  have t5 := HT2.out.cell 5 rfl
  have t6 := HT2.out.cell 6 rfl
  go_wp2_with fail
  refine (marksOf_any _ _ _ _ _ _ _ _).mono ?_
  rintro e w3 ⟨rfl, hb⟩
  have HB3 := Lib.hid (below_step HB2.out hb)
  have HT3 := Lib.hid (HT2.out.later hb)
  have HW3 := Lib.hid (HW.out.later hb)
  clear hb HW HB2 HT2 t0 t1 t2 t3 t4 t5 t6
  go_wp2_with fail
  refine wp_loop_rounds 6 ?_
  rw [rounds_succ]
  go_wp2_with fail
  refine (tset_any w1.heap.size (pk0 k) 2 1 c _ HW3.out (HP.out.2.1.1) (HP.out.2.1.2) (by omega) (by omega)).mono ?_
  rintro e w4 ⟨rfl, hW, hT⟩
  have HW4 := Lib.hid (show Blk w4 w1.heap.size #[.int .u32 (pk1 k c)] 46 from hW)
  have HB4 := Lib.hid (below_touch HB3.out hT (by omega))
  have HT4 := Lib.hid (HT3.out.touch hT (by omega))
  clear hW hT HW3 HB3 HT3
  go_wp2_with fail
  rw [rounds_succ]
  go_wp2_with fail
  refine (tset_any w1.heap.size (pk1 k c) 3 1 n _ HW4.out (HP.out.2.2.1.1) (HP.out.2.2.1.2) (by omega) (by omega)).mono ?_
  rintro e w5 ⟨rfl, hW, hT⟩
  have HW5 := Lib.hid (show Blk w5 w1.heap.size #[.int .u32 (pk2 k c n)] 46 from hW)
  have HB5 := Lib.hid (below_touch HB4.out hT (by omega))
  have HT5 := Lib.hid (HT4.out.touch hT (by omega))
  clear hW hT HW4 HB4 HT4
  go_wp2_with fail
  rw [rounds_succ]
  go_wp2_with fail
  refine (tset_any w1.heap.size (pk2 k c n) 4 1 s _ HW5.out (HP.out.2.2.2.1.1) (HP.out.2.2.2.1.2) (by omega) (by omega)).mono ?_
  rintro e w6 ⟨rfl, hW, hT⟩
  have HW6 := Lib.hid (show Blk w6 w1.heap.size #[.int .u32 (pk3 k c n s)] 46 from hW)
  have HB6 := Lib.hid (below_touch HB5.out hT (by omega))
  have HT6 := Lib.hid (HT5.out.touch hT (by omega))
  clear hW hT HW5 HB5 HT5
  go_wp2_with fail
  rw [rounds_succ]
  go_wp2_with fail
  refine (tset_any w1.heap.size (pk3 k c n s) 5 1 d _ HW6.out (HP.out.2.2.2.2.1.1) (HP.out.2.2.2.2.1.2) (by omega) (by omega)).mono ?_
  rintro e w7 ⟨rfl, hW, hT⟩
  have HW7 := Lib.hid (show Blk w7 w1.heap.size #[.int .u32 (pk4 k c n s d)] 46 from hW)
  have HB7 := Lib.hid (below_touch HB6.out hT (by omega))
  have HT7 := Lib.hid (HT6.out.touch hT (by omega))
  clear hW hT HW6 HB6 HT6
  go_wp2_with fail
  rw [rounds_succ]
  go_wp2_with fail
  refine (tset_any w1.heap.size (pk4 k c n s d) 6 1 g _ HW7.out (HP.out.2.2.2.2.2.1.1) (HP.out.2.2.2.2.2.1.2) (by omega) (by omega)).mono ?_
  rintro e w8 ⟨rfl, hW, hT⟩
  have HW8 := Lib.hid (show Blk w8 w1.heap.size #[.int .u32 (pk5 k c n s d g)] 46 from hW)
  have HB8 := Lib.hid (below_touch HB7.out hT (by omega))
  have HT8 := Lib.hid (HT7.out.touch hT (by omega))
  clear hW hT HW7 HB7 HT7
  go_wp2_with fail
  have t6 := HT8.out.cell 6 rfl
  rw [rounds_succ]
  go_wp2_with fail
  refine (tset_any w1.heap.size (pk5 k c n s d g) 8 24 o _ HW8.out HP.out.2.2.2.2.2.2.1 HP.out.2.2.2.2.2.2.2 (by omega) (by omega)).mono ?_
  rintro e w9 ⟨rfl, hW, hT⟩
  have HB9 := Lib.hid (below_touch HB8.out hT (by omega))
  have c9 : w9.cell? ⟨w1.heap.size, 0, none⟩ = some (.int .u32 (packI k c n s d g o)) := by
    have := Blk.cell (show Blk w9 w1.heap.size #[.int .u32 (pk6 k c n s d g o)] 46 from hW) 0 rfl
    rw [HP.out.1] at this
    exact this
  clear hW hT HW8 HB8 HT8 t6
  go_wp2_with fail
  go_ret2
  exact ⟨rfl, HB9.out⟩

end Go.Proofs.Ytdiegmbaiibndaa.Pk
