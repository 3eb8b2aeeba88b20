/-
  A sheet made and asked: plan.New, (*Sheet).Numbers; what must come whatever the arguments are (the theorems of the whole, layer 3).
-/
import Derived.Test.YtknfhkfbbnekjaaSheet
import Derived.Outline
namespace Go.Proofs.Ytknfhkfbbnekjaa.Pk
open Go.RowKit
set_option linter.unusedVariables false
set_option linter.unusedSimpArgs false

set_option maxRecDepth 100000 in
set_option maxHeartbeats 1000000 in
theorem newSheet_any (N W R K : Int) (w : World) :
    Calls Try.prog 19 #[.agg #[.int .i64 N, .int .i64 W, .int .i64 R, .int .i64 K]] w fun e w' => e = .returned (.pointer (some ⟨w.heap.size + 1, 0, none⟩)) ∧
      w' = (w.alloc (.cells #[.int .i64 N, .int .i64 W, .int .i64 R, .int .i64 K] 23)).alloc (.cells (sheetC N W R K 0 0 0 0 0 0 0 0 0 0 0 0) 62) := by
  go_enter Try.func19, Try.ntmps19
  go_wp2
  go_ret
  exact ⟨rfl, rfl⟩

theorem add_sheet (s : Nat) (N W R K : Int) (w : World) (hB : Blk w s (sheetC N W R K 0 0 0 0 0 0 0 0 0 0 0 0) 62) :
    Calls Try.prog 24 #[.pointer (some ⟨s, 16, none⟩), .int .i64 1] w fun e w' => e = .returned (.int .i64 1) ∧ Blk w' s (sheetC N W R K 0 0 0 0 0 0 0 0 0 0 0 1) 62 ∧ Touch (· = s) w w' :=
  (i64Add_any ⟨s, 16, none⟩ 0 w (hB.cell 16 rfl) (hB.free 16)).mono fun e w' ⟨he, hw⟩ => by
    subst hw
    exact ⟨he, hB.put 16 _ (by simp [sheetC]), (Touch.refl (· = s) w).setCell (p := ⟨s, 16, none⟩) (fun _ => rfl) _⟩

/-- The numbers are told; of what there was the sheet alone may have changed. -/
def Told (s : Nat) (N W R K : Int) (w : World) (e : Ending) (w' : World) : Prop := e = .returned (.tuple #[numsV N W R K, .int .i64 0]) ∧ Touch (· = s) w w'

set_option maxRecDepth 100000 in
set_option maxHeartbeats 2000000 in
theorem numbers_first (s : Nat) (N W R K : Int) (w : World) (h : May N W R K) (hB : Blk w s (sheetC N W R K 0 0 0 0 0 0 0 0 0 0 0 0) 62) :
    Calls Try.prog 20 #[.pointer (some ⟨s, 0, none⟩)] w (Told s N W R K w) := by
  have hmf : ∀ (fn : Fn) (first cap : Array Value) (w : World), (Instr.makeFunc fn first cap).run Try.prog w = .ok (.func fn first cap) w := fun _ _ _ _ => rfl
  have HX := Lib.hid h
  have hsl : s < w.heap.size := hB.lt
  have c16 : w.cell? ⟨s, 16, none⟩ = some (.int .i64 0) := hB.cell 16 rfl
  have f16 : w.frozen? ⟨s, 16, none⟩ = false := hB.free 16
  have HB := Lib.hid hB
  clear h hB
  go_enter Try.func20, Try.ntmps20
  have hB1 : Blk ((w.alloc (.cells #[.pointer (some ⟨s, 0, none⟩)] 41)).alloc (.cells #[.int .i64 0, .int .i64 0, .int .i64 0, .int .i64 0, .int .i64 0, .int .i64 0, .int .i64 0, .int .i64 0] 31)) s (sheetC N W R K 0 0 0 0 0 0 0 0 0 0 0 0) 62 := (HB.out.alloc _).alloc _
  have hp1 : Blk ((w.alloc (.cells #[.pointer (some ⟨s, 0, none⟩)] 41)).alloc (.cells #[.int .i64 0, .int .i64 0, .int .i64 0, .int .i64 0, .int .i64 0, .int .i64 0, .int .i64 0, .int .i64 0] 31)) w.heap.size #[.pointer (some ⟨s, 0, none⟩)] 41 := (Blk.new w _ _).alloc _
  have hr1 : Blk ((w.alloc (.cells #[.pointer (some ⟨s, 0, none⟩)] 41)).alloc (.cells #[.int .i64 0, .int .i64 0, .int .i64 0, .int .i64 0, .int .i64 0, .int .i64 0, .int .i64 0, .int .i64 0] 31)) (w.heap.size + 1) #[.int .i64 0, .int .i64 0, .int .i64 0, .int .i64 0, .int .i64 0, .int .i64 0, .int .i64 0, .int .i64 0] 31 := by have := Blk.new (w.alloc (.cells #[.pointer (some ⟨s, 0, none⟩)] 41)) #[.int .i64 0, .int .i64 0, .int .i64 0, .int .i64 0, .int .i64 0, .int .i64 0, .int .i64 0, .int .i64 0] 31; simpa using this
  have hT1 : Touch (· = s) w ((w.alloc (.cells #[.pointer (some ⟨s, 0, none⟩)] 41)).alloc (.cells #[.int .i64 0, .int .i64 0, .int .i64 0, .int .i64 0, .int .i64 0, .int .i64 0, .int .i64 0, .int .i64 0] 31)) := ((Touch.refl (· = s) w).alloc _).alloc _
  have HB1 := Lib.hid hB1
  have HP1 := Lib.hid hp1
  have HR1 := Lib.hid hr1
  have HT1 := Lib.hid hT1
  clear hB1 hp1 hr1 hT1 c16 f16
  go_wp2_with fail
  refine (add_sheet s N W R K _ HB1.out).mono ?_
  rintro e w2 ⟨rfl, hB2, hT2⟩
  have HB2 := Lib.hid hB2
  have HP2 := Lib.hid (HP1.out.touch hT2 (by omega))
  have HR2 := Lib.hid (HR1.out.touch hT2 (by omega))
  have HT2 := Lib.hid (HT1.out.trans hT2)
  clear hB2 hT2 HB1 HP1 HR1 HT1
  have cp2 : w2.cell? ⟨w.heap.size, 0, none⟩ = some (.pointer (some ⟨s, 0, none⟩)) := HP2.out.cell 0 rfl
  go_wp2_with fail
  refine (do_first s w.heap.size N W R K _ HX.out (by omega) HB2.out cp2).mono ?_
  rintro e w3 ⟨rfl, hB3, hT3⟩
  clear cp2
  have HR3 := Lib.hid (HR2.out.touch hT3 (by omega))
  have cp : w3.cell? ⟨w.heap.size, 0, none⟩ = some (.pointer (some ⟨s, 0, none⟩)) := (HP2.out.touch hT3 (by omega)).cell 0 rfl
  have e7 : w3.cell? ⟨s, 7, none⟩ = some (.int .i64 (wordsI N W R)) := hB3.cell 7 rfl
  have e8 : w3.cell? ⟨s, 8, none⟩ = some (.int .i64 (W - 8)) := hB3.cell 8 rfl
  have e9 : w3.cell? ⟨s, 9, none⟩ = some (.int .i64 (W - 7)) := hB3.cell 9 rfl
  have e10 : w3.cell? ⟨s, 10, none⟩ = some (.int .i64 (fieldsI W)) := hB3.cell 10 rfl
  have e11 : w3.cell? ⟨s, 11, none⟩ = some (.int .i64 (epochI N W)) := hB3.cell 11 rfl
  have e12 : w3.cell? ⟨s, 12, none⟩ = some (.int .i64 (drainI N W)) := hB3.cell 12 rfl
  have e13 : w3.cell? ⟨s, 13, none⟩ = some (.int .i64 (lagI N W K)) := hB3.cell 13 rfl
  have e14 : w3.cell? ⟨s, 14, none⟩ = some (.int .i64 (settleI N W K)) := hB3.cell 14 rfl
  have e15 : w3.cell? ⟨s, 15, none⟩ = some (.int .i64 0) := hB3.cell 15 rfl
  have r0 : w3.cell? ⟨w.heap.size + 1, 0, none⟩ = some (.int .i64 0) := HR3.out.cell 0 rfl
  have r1 : w3.cell? ⟨w.heap.size + 1, 1, none⟩ = some (.int .i64 0) := HR3.out.cell 1 rfl
  have r2 : w3.cell? ⟨w.heap.size + 1, 2, none⟩ = some (.int .i64 0) := HR3.out.cell 2 rfl
  have r3 : w3.cell? ⟨w.heap.size + 1, 3, none⟩ = some (.int .i64 0) := HR3.out.cell 3 rfl
  have r4 : w3.cell? ⟨w.heap.size + 1, 4, none⟩ = some (.int .i64 0) := HR3.out.cell 4 rfl
  have r5 : w3.cell? ⟨w.heap.size + 1, 5, none⟩ = some (.int .i64 0) := HR3.out.cell 5 rfl
  have r6 : w3.cell? ⟨w.heap.size + 1, 6, none⟩ = some (.int .i64 0) := HR3.out.cell 6 rfl
  have r7 : w3.cell? ⟨w.heap.size + 1, 7, none⟩ = some (.int .i64 0) := HR3.out.cell 7 rfl
  have rf : ∀ i, w3.frozen? ⟨w.heap.size + 1, i, none⟩ = false := fun i => HR3.out.free i
  have HT3 := Lib.hid (HT2.out.trans hT3)
  have hrs : ¬ s = w.heap.size + 1 := by omega
  have hsr : ¬ w.heap.size + 1 = s := by omega
  clear hB3 hT3 HB2 HP2 HR2 HT2
  go_wp2_with fail
  go_region_held3 (fun w' => w'.cell? ⟨w.heap.size, 0, none⟩ = some (.pointer (some ⟨s, 0, none⟩)) ∧ w'.cell? ⟨s, 7, none⟩ = some (.int .i64 (wordsI N W R)) ∧ w'.cell? ⟨s, 8, none⟩ = some (.int .i64 (W - 8)) ∧ w'.cell? ⟨s, 9, none⟩ = some (.int .i64 (W - 7)) ∧ w'.cell? ⟨s, 10, none⟩ = some (.int .i64 (fieldsI W)) ∧ w'.cell? ⟨s, 11, none⟩ = some (.int .i64 (epochI N W)) ∧ w'.cell? ⟨s, 12, none⟩ = some (.int .i64 (drainI N W)) ∧ w'.cell? ⟨s, 13, none⟩ = some (.int .i64 (lagI N W K)) ∧ w'.cell? ⟨s, 14, none⟩ = some (.int .i64 (settleI N W K)) ∧ w'.cell? ⟨s, 15, none⟩ = some (.int .i64 0)) ((first | (go_keep; done) | (go_split_ands; refine ⟨?_, ?_, ?_, ?_, ?_, ?_, ?_, ?_, ?_, ?_⟩ <;> first | (go_keep; done) | (go_simp; done)))) (fail)
  go_wp2_with fail
  exact bodyPost_ret (v := .tuple #[numsV N W R K, .int .i64 0]) (by simp [results, Try.results20, go_sem, numsV, r0, r1, r2, r3, r4, r5, r6, r7]) rfl ⟨rfl, by
    refine Touch.drew ?_
    repeat refine Touch.setCell ?_ (fun h => absurd h (by simp)) _
    exact HT3.out⟩

theorem may_awake : May 10 20 2 7 := by constructor <;> decide
theorem nums_awake : numsV 10 20 2 7 = .agg #[.int .i64 226, .int .i64 12, .int .i64 13, .int .i64 228, .int .i64 634, .int .i64 210, .int .i64 208, .int .i64 214] := by kernel_rfl
theorem told_awake (s : Nat) (w : World) (hB : Blk w s (sheetC 10 20 2 7 0 0 0 0 0 0 0 0 0 0 0 0) 62) :
    Calls Try.prog 20 #[.pointer (some ⟨s, 0, none⟩)] w fun e w' => e = .returned (.tuple #[.agg #[.int .i64 226, .int .i64 12, .int .i64 13, .int .i64 228, .int .i64 634, .int .i64 210, .int .i64 208, .int .i64 214], .int .i64 0]) ∧ Touch (· = s) w w' :=
  nums_awake ▸ numbers_first s 10 20 2 7 w may_awake hB

set_option maxRecDepth 100000 in
set_option maxHeartbeats 1000000 in
theorem awake3_any (w : World) : Calls Try.prog 12 #[] w fun e w' => e = .returned (.bool true) ∧ Below w.heap.size w w' := by
  go_enter Try.func12, Try.ntmps12
  go_wp2_with fail
  refine (newSheet_any 10 20 2 7 _).mono ?_
  rintro e w1 ⟨rfl, hw1⟩
  have hB1 : Blk w1 (w.heap.size + 1) (sheetC 10 20 2 7 0 0 0 0 0 0 0 0 0 0 0 0) 62 := by
    have := Blk.new (w.alloc (.cells #[.int .i64 10, .int .i64 20, .int .i64 2, .int .i64 7] 23)) (sheetC 10 20 2 7 0 0 0 0 0 0 0 0 0 0 0 0) 62
    rw [hw1]; simpa using this
  have hb1 : Below w.heap.size w w1 := by rw [hw1]; exact (below_new w _).alloc (by simp) _
  have HB1 := Lib.hid hB1
  have HBe := Lib.hid hb1
  have hz : w.heap.size < w1.heap.size := by have := hB1.lt; omega
  clear hw1 hB1 hb1
  go_wp2_with fail
  refine (told_awake _ _ HB1.out).mono ?_
  rintro e w2 ⟨rfl, hT⟩
  have HB2 := Lib.hid (HBe.out.trans (hT.below (B := w.heap.size) (fun k hk => by omega) (by omega)))
  clear hT HB1 HBe hz
  go_wp2_with fail
  refine (eqIv (up_any 634 7 _) (b := 91) (by decide)).mono ?_
  rintro e w3 ⟨rfl, rfl⟩
  go_wp2_with fail
  go_ret
  exact ⟨rfl, HB2.out.alloc HB2.out.size _⟩

end Go.Proofs.Ytknfhkfbbnekjaa.Pk
