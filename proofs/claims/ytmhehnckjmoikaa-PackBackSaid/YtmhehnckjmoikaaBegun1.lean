/-
  The chapter's examples hold.
-/
import Derived.Test.YtmhehnckjmoikaaOnes
import Derived.Test.YtmhehnckjmoikaaPackSplit
namespace Go.Proofs.Ytmhehnckjmoikaa.Pk
open Go.RowKit
set_option linter.unusedVariables false
set_option linter.unusedSimpArgs false

theorem Row.lit (w : World) (k : IntKind) (zs : List Int) (t : TypeId) : Row (w.alloc (.cells (zs.map (Value.int k)).toArray t)) k (some ⟨w.heap.size, 0, none⟩) zs := by
  intro i hi
  refine ⟨w.heap.size, 0, rfl, by simp, ?_⟩
  rw [Nat.zero_add, World.cell?_alloc_at _ _ _ _ rfl]
  show (zs.map (Value.int k)).toArray[i]? = some (Value.int k (zs.getD i 0))
  simp [List.getD, hi]

theorem row_444 (w : World) : Row (w.alloc (.cells #[.int .i64 4, .int .i64 4, .int .i64 4] 3)) .i64 (some ⟨w.heap.size, 0, none⟩) [4, 4, 4] := Row.lit w .i64 [4, 4, 4] 3
theorem row_321 (w : World) : Row (w.alloc (.cells #[.int .u32 3, .int .u32 2, .int .u32 1] 22)) .u32 (some ⟨w.heap.size, 0, none⟩) [3, 2, 1] := Row.lit w .u32 [3, 2, 1] 22
theorem row_16 (w : World) : Row (w.alloc (.cells #[.int .u32 16] 22)) .u32 (some ⟨w.heap.size, 0, none⟩) [16] := Row.lit w .u32 [16] 22
theorem row_4 (w : World) (n : Nat) (hn : n = w.heap.size) : Row (w.alloc (.cells #[.int .i64 4] 3)) .i64 (some ⟨n, 0, none⟩) [4] := by
  subst hn; exact Row.lit w .i64 [4] 3
theorem put_ex (w : World) : Calls Try.prog 15 #[.int .u32 0, .int .i64 4, .int .i64 8, .int .u32 255] w fun e w' => e = .returned (.tuple #[.int .u32 4080, .int .i64 0]) ∧ Drw w w' :=
  put_yes 0 4 8 255 w (by decide) (by decide) (by decide) (by decide) (by decide) (by decide)
theorem get_ex (w : World) : Calls Try.prog 9 #[.int .u32 4080, .int .i64 4, .int .i64 8] w fun e w' => e = .returned (.int .u32 255) ∧ Drw w w' :=
  get_yes 4080 4 8 w (by decide) (by decide) (by decide)
theorem ones_ex (w : World) : Calls Try.prog 13 #[.int .u32 4080] w fun e w' => e = .returned (.int .i64 8) ∧ Drw w w' :=
  ones_any 4080 w (by decide) (by decide)
theorem right_ex : rightTo [4, 4, 4] 3 := by unfold rightTo; decide
theorem split_ex (a : Option Addr) (w : World) (hz : Row w .i64 a [4, 4, 4]) :
    Calls Try.prog 18 #[.int .u32 291, .slice a 3 3] w fun e w' => ∃ a' c', e = .returned (.tuple #[.slice a' 3 c', .int .i64 0]) ∧ Row w' .u32 a' [3, 2, 1] ∧ Below w.heap.size w w' :=
  split_yes 291 a 3 [4, 4, 4] w (by decide) (by decide) hz right_ex (by decide)
theorem join_ex (al a : Option Addr) (w : World) (hl : Row w .u32 al [16]) (hz : Row w .i64 a [4]) :
    Calls Try.prog 20 #[.slice al 1 1, .slice a 1 1] w fun e w' => e = .returned (.tuple #[.int .u32 0, .int .i64 15]) ∧ Drw w w' :=
  join_big al 1 [16] a 1 [4] w hl (fun j => by match j with | 0 => decide | j + 1 => simp [nth]) hz (by unfold rightTo; decide) rfl (by unfold fitsTo; decide)

set_option maxHeartbeats 400000 in
theorem begun_any (w : World) : Calls Try.prog 8 #[] w fun e w' => e = .returned (.bool true) ∧ Below w.heap.size w w' := by
  go_enter Try.func8, Try.ntmps8
  go_wp2_with fail
  refine (put_ex _).mono ?_
  rintro e w1 ⟨rfl, hd1⟩
  have HB1 := Lib.hid hd1.new
  clear hd1
  go_wp2_with fail
  refine (split_ex _ _ (row_444 w1)).mono ?_
  rintro e w2 ⟨a2, c2, rfl, hr2, hb2⟩
  have HB2 := Lib.hid (below_step (below_step HB1.out (below_new w1 _)) hb2)
  have HR2 := Lib.hid hr2
  clear hb2 HB1 hr2
  go_wp2_with fail
  refine (join_ex _ _ _ ((row_16 w2).alloc _) (row_4 (w2.alloc _) _ (by simp))).mono ?_
  rintro e w3 ⟨rfl, hd3⟩
  have hb3 := below_step (below_step (below_new w2 _) (below_new _ _)) hd3.new
  have HB3 := Lib.hid (below_step HB2.out hb3)
  have HR3 := Lib.hid (HR2.out.later hb3)
  clear hd3 hb3 HB2 HR2
  go_wp2_with fail
  refine (get_ex _).mono ?_
  rintro e w4 ⟨rfl, hd4⟩
  have HB4 := Lib.hid (below_step HB3.out hd4.new)
  have HR4 := Lib.hid (HR3.out.later hd4.new)
  clear hd4 HB3 HR3
  go_wp2_with fail
  refine (ones_ex _).mono ?_
  rintro e w5 ⟨rfl, hd5⟩
  have HB5 := Lib.hid (below_step HB4.out hd5.new)
  have HR5 := Lib.hid (HR4.out.later hd5.new)
  clear hd5 HB4 HR4
  go_wp2_with fail
  refine (same_yes a2 _ c2 3 [3, 2, 1] _ (HR5.out.alloc _) (row_321 w5) (by decide)).mono ?_
  rintro e w6 ⟨rfl, hd6⟩
  have HB6 := Lib.hid (below_step (below_step HB5.out (below_new w5 _)) hd6.new)
  clear hd6 HB5 HR5
  go_wp2_with fail
  go_ret
  exact ⟨rfl, HB6.out⟩

end Go.Proofs.Ytmhehnckjmoikaa.Pk
