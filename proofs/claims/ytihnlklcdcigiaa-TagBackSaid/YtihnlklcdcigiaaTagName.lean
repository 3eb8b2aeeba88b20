/-
  Kinds by their names; the chapter's examples.
-/
import Derived.Test.YtihnlklcdcigiaaRefTag
import Derived.Test.YtihnlklcdcigiaaTag3
namespace Go.Proofs.Ytihnlklcdcigiaa.Pk
open Go.RowKit
set_option linter.unusedVariables false
set_option linter.unusedSimpArgs false

/-- Is that the name of kind j? -/
def nmB (j : Int) (s : ByteArray) : Bool := (nmS j).toList == s.toList
def kindI (s : ByteArray) : Int := if nmB 0 s = true then 0 else if nmB 1 s = true then 1 else if nmB 2 s = true then 2 else if nmB 3 s = true then 3 else 0
def kindB (s : ByteArray) : Bool := nmB 0 s || nmB 1 s || nmB 2 s || nmB 3 s
theorem nmB_one {i j : Int} {s : ByteArray} (h : nmB i s = true) (hd : (nmS i).data.toList ≠ (nmS j).data.toList) : nmB j s = false := by
  unfold nmB at h ⊢
  rw [beq_iff_eq] at h
  rw [beq_eq_false_iff_ne, ← h, ByteArray.toList_eq, ByteArray.toList_eq]
  exact fun e => hd e.symm
theorem ret_kind {a b : Int} {x y : Bool} (h : a = b) (h2 : x = y) : Ending.returned (.tuple #[.int .i64 a, .bool x]) = .returned (.tuple #[.int .i64 b, .bool y]) := by rw [h, h2]

theorem tkind_0 (s : ByteArray) (w : World)  (q0 : nmB 0 s = true) :
    Calls Try.prog 16 #[.string s] w fun e w' => e = .returned (.tuple #[.int .i64 (kindI s), .bool (kindB s)]) ∧ w = w' := by
  have ei : kindI s = 0 := by simp [kindI, q0]
  have eb : kindB s = true := by simp [kindB, q0]
  unfold nmB at q0
  go_enter Try.func16, Try.ntmps16
  go_wp2_with fail
  refine wp_loop_rounds 5 ?_
  rw [rounds_succ]
  go_wp2_with fail
  refine (tname_any 0 _).mono ?_
  rintro e w1 ⟨rfl, rfl⟩
  go_wp2_with fail
  go_ret2
  exact ⟨ret_kind ei.symm eb.symm, rfl⟩

theorem tkind_1 (s : ByteArray) (w : World) (q0 : nmB 0 s = false) (q1 : nmB 1 s = true) :
    Calls Try.prog 16 #[.string s] w fun e w' => e = .returned (.tuple #[.int .i64 (kindI s), .bool (kindB s)]) ∧ w = w' := by
  have ei : kindI s = 1 := by simp [kindI, q0, q1]
  have eb : kindB s = true := by simp [kindB, q0, q1]
  unfold nmB at q0 q1
  go_enter Try.func16, Try.ntmps16
  go_wp2_with fail
  refine wp_loop_rounds 5 ?_
  rw [rounds_succ]
  go_wp2_with fail
  refine (tname_any 0 _).mono ?_
  rintro e w1 ⟨rfl, rfl⟩
  go_wp2_with fail
  rw [rounds_succ]
  go_wp2_with fail
  refine (tname_any 1 _).mono ?_
  rintro e w1 ⟨rfl, rfl⟩
  go_wp2_with fail
  go_ret2
  exact ⟨ret_kind ei.symm eb.symm, rfl⟩

theorem tkind_2 (s : ByteArray) (w : World) (q0 : nmB 0 s = false) (q1 : nmB 1 s = false) (q2 : nmB 2 s = true) :
    Calls Try.prog 16 #[.string s] w fun e w' => e = .returned (.tuple #[.int .i64 (kindI s), .bool (kindB s)]) ∧ w = w' := by
  have ei : kindI s = 2 := by simp [kindI, q0, q1, q2]
  have eb : kindB s = true := by simp [kindB, q0, q1, q2]
  unfold nmB at q0 q1 q2
  go_enter Try.func16, Try.ntmps16
  go_wp2_with fail
  refine wp_loop_rounds 5 ?_
  rw [rounds_succ]
  go_wp2_with fail
  refine (tname_any 0 _).mono ?_
  rintro e w1 ⟨rfl, rfl⟩
  go_wp2_with fail
  rw [rounds_succ]
  go_wp2_with fail
  refine (tname_any 1 _).mono ?_
  rintro e w1 ⟨rfl, rfl⟩
  go_wp2_with fail
  rw [rounds_succ]
  go_wp2_with fail
  refine (tname_any 2 _).mono ?_
  rintro e w1 ⟨rfl, rfl⟩
  go_wp2_with fail
  go_ret2
  exact ⟨ret_kind ei.symm eb.symm, rfl⟩

theorem tkind_3 (s : ByteArray) (w : World) (q0 : nmB 0 s = false) (q1 : nmB 1 s = false) (q2 : nmB 2 s = false) (q3 : nmB 3 s = true) :
    Calls Try.prog 16 #[.string s] w fun e w' => e = .returned (.tuple #[.int .i64 (kindI s), .bool (kindB s)]) ∧ w = w' := by
  have ei : kindI s = 3 := by simp [kindI, q0, q1, q2, q3]
  have eb : kindB s = true := by simp [kindB, q0, q1, q2, q3]
  unfold nmB at q0 q1 q2 q3
  go_enter Try.func16, Try.ntmps16
  go_wp2_with fail
  refine wp_loop_rounds 5 ?_
  rw [rounds_succ]
  go_wp2_with fail
  refine (tname_any 0 _).mono ?_
  rintro e w1 ⟨rfl, rfl⟩
  go_wp2_with fail
  rw [rounds_succ]
  go_wp2_with fail
  refine (tname_any 1 _).mono ?_
  rintro e w1 ⟨rfl, rfl⟩
  go_wp2_with fail
  rw [rounds_succ]
  go_wp2_with fail
  refine (tname_any 2 _).mono ?_
  rintro e w1 ⟨rfl, rfl⟩
  go_wp2_with fail
  rw [rounds_succ]
  go_wp2_with fail
  refine (tname_any 3 _).mono ?_
  rintro e w1 ⟨rfl, rfl⟩
  go_wp2_with fail
  go_ret2
  exact ⟨ret_kind ei.symm eb.symm, rfl⟩

theorem tkind_4 (s : ByteArray) (w : World) (q0 : nmB 0 s = false) (q1 : nmB 1 s = false) (q2 : nmB 2 s = false) (q3 : nmB 3 s = false) :
    Calls Try.prog 16 #[.string s] w fun e w' => e = .returned (.tuple #[.int .i64 (kindI s), .bool (kindB s)]) ∧ w = w' := by
  have ei : kindI s = 0 := by simp [kindI, q0, q1, q2, q3]
  have eb : kindB s = false := by simp [kindB, q0, q1, q2, q3]
  unfold nmB at q0 q1 q2 q3
  go_enter Try.func16, Try.ntmps16
  go_wp2_with fail
  refine wp_loop_rounds 5 ?_
  rw [rounds_succ]
  go_wp2_with fail
  refine (tname_any 0 _).mono ?_
  rintro e w1 ⟨rfl, rfl⟩
  go_wp2_with fail
  rw [rounds_succ]
  go_wp2_with fail
  refine (tname_any 1 _).mono ?_
  rintro e w1 ⟨rfl, rfl⟩
  go_wp2_with fail
  rw [rounds_succ]
  go_wp2_with fail
  refine (tname_any 2 _).mono ?_
  rintro e w1 ⟨rfl, rfl⟩
  go_wp2_with fail
  rw [rounds_succ]
  go_wp2_with fail
  refine (tname_any 3 _).mono ?_
  rintro e w1 ⟨rfl, rfl⟩
  go_wp2_with fail
  rw [rounds_succ]
  go_wp2_with fail
  go_ret2
  exact ⟨ret_kind ei.symm eb.symm, rfl⟩

theorem tkind_any (s : ByteArray) (w : World) :
    Calls Try.prog 16 #[.string s] w fun e w' => e = .returned (.tuple #[.int .i64 (kindI s), .bool (kindB s)]) ∧ w = w' := by
  cases q0 : nmB 0 s with
  | true => exact tkind_0 s w q0
  | false =>
  cases q1 : nmB 1 s with
  | true => exact tkind_1 s w q0 q1
  | false =>
  cases q2 : nmB 2 s with
  | true => exact tkind_2 s w q0 q1 q2
  | false =>
  cases q3 : nmB 3 s with
  | true => exact tkind_3 s w q0 q1 q2 q3
  | false => exact tkind_4 s w q0 q1 q2 q3

theorem tpack_any (k c n s d g o : Int) (w : World) :
    Calls Try.prog 7 #[.agg #[.int .i64 k, .int .i64 c, .int .i64 n, .int .i64 s, .int .i64 d, .int .i64 g, .int .i64 o]] w fun e w' => e = .returned (.tuple #[.int .u32 (packV k c n s d g o), .int .i64 (packE k c n s d g o)]) ∧ Below w.heap.size w w' := by
  cases hr : rightB k c n s d g o with
  | true => rw [packV_yes hr, packE_yes hr]; exact tpack_yes k c n s d g o w hr
  | false => rw [packV_no hr, packE_no hr]; exact tpack_no k c n s d g o w hr
theorem tpack_771 (w : World) : Calls Try.prog 7 #[.agg #[.int .i64 3, .int .i64 0, .int .i64 0, .int .i64 0, .int .i64 0, .int .i64 0, .int .i64 3]] w fun e w' => e = .returned (.tuple #[.int .u32 771, .int .i64 0]) ∧ Below w.heap.size w w' :=
  tpack_yes 3 0 0 0 0 0 3 w (by decide)
theorem tpack_70 (w : World) : Calls Try.prog 7 #[.agg #[.int .i64 2, .int .i64 1, .int .i64 0, .int .i64 0, .int .i64 0, .int .i64 1, .int .i64 0]] w fun e w' => e = .returned (.tuple #[.int .u32 70, .int .i64 0]) ∧ Below w.heap.size w w' :=
  tpack_yes 2 1 0 0 0 1 0 w (by decide)
theorem tname_3 (w : World) : Calls Try.prog 14 #[.int .i64 3] w fun e w' => e = .returned (.string ⟨#[108, 101, 97, 102]⟩) ∧ w = w' := tname_any 3 w

theorem begun6_any (w : World) : Calls Try.prog 10 #[] w fun e w' => e = .returned (.bool true) ∧ Below w.heap.size w w' := by
  go_enter Try.func10, Try.ntmps10
  go_wp2_with fail
  refine (tpack_771 _).mono ?_
  rintro e w1 ⟨rfl, hb⟩
  have HB := Lib.hid hb
  clear hb
  go_wp2_with fail
  refine (tpack_70 _).mono ?_
  rintro e w2 ⟨rfl, hb⟩
  have HB2 := Lib.hid (below_step HB.out hb)
  clear hb
  go_wp2_with fail
  refine (tname_3 _).mono ?_
  rintro e w3 ⟨rfl, rfl⟩
  go_wp2_with fail
  go_ret
  exact ⟨rfl, HB2.out⟩

end Go.Proofs.Ytihnlklcdcigiaa.Pk
