/- The statement PlanMore holds for every input: with more units for each block neither Lag nor Settle is greater, and no pause is less; and the chapter's example holds. No condition. -/
import Derived.Test.YtknfhkfbbnekjaaRows
import Derived.Test.YtknfhkfbbnekjaaPausePlan
import Derived.WalkKit
import Derived.ProofKit
import Derived.OpenShut
import Derived.ChangeOld
import Derived.Carry
import Derived.Lib.SmallJoins
namespace Go.Proofs.Ytknfhkfbbnekjaa.planMore
open Go.ChangeShapes Go.WideShapes Go.ChangeAt Go.RowKit Go.Joins
open Go.Proofs.Ytknfhkfbbnekjaa.Pk
set_option linter.unusedVariables false
set_option linter.unusedSimpArgs false

theorem own : ownKnob Try.prog.godebug = none := by kernel_rfl
theorem laidOut : laidOutB Try.prog = true := by kernel_rfl

set_option maxRecDepth 100000 in
set_option maxHeartbeats 1000000 in
theorem walk_no (N W R K m kind blocks : Int) (w : World) (h : mayB N W R K = false) :
    Calls Try.prog 4 #[.agg #[.int .i64 N, .int .i64 W, .int .i64 R, .int .i64 K], .int .u16 m, .int .i64 kind, .int .i64 blocks] w fun e w' => e = .returned (.bool true) ∧ Below w.heap.size w w' := by
  have HX := Lib.hid h
  clear h
  go_enter Try.func4, Try.ntmps4
  go_wp2_with fail
  refine (begun3_any _).mono ?_
  rintro e w1 ⟨rfl, hb⟩
  have hz : w.heap.size < w1.heap.size := by have := hb.size; simp at this; omega
  have HB := Lib.hid (below_step (below_new w _) hb)
  obtain ⟨hc, hf⟩ := bcell hb
  clear hb
  go_wp2_with fail
  refine (check_no _ _ _ _ _ HX.out).mono ?_
  rintro e w2 ⟨rfl, hb⟩
  have HB2 := Lib.hid (below_step HB.out hb)
  clear hb hc hf
  go_wp2_with fail
  refine (begun3_any _).mono ?_
  rintro e w3 ⟨rfl, hb⟩
  have HB3 := Lib.hid (below_step HB2.out hb)
  clear hb
  go_wp2_with fail
  go_ret
  exact ⟨rfl, HB3.out⟩

set_option maxRecDepth 100000 in
set_option maxHeartbeats 1000000 in
theorem walk_much (N W R K m kind blocks : Int) (w : World) (h : May N W R K) (hm : 0 ≤ m) (hm2 : m < 65536) (hx : 65536 < K + m) :
    Calls Try.prog 4 #[.agg #[.int .i64 N, .int .i64 W, .int .i64 R, .int .i64 K], .int .u16 m, .int .i64 kind, .int .i64 blocks] w fun e w' => e = .returned (.bool true) ∧ Below w.heap.size w w' := by
  have HY : Hid (mayB N W R (K + m) = false) := Lib.hid (mayB_no fun h' => by have := h'.k1; omega)
  have k0 := h.k0; have k1 := h.k1
  have HX := Lib.hid h
  clear h
  go_enter Try.func4, Try.ntmps4
  go_wp2_with fail
  refine (begun3_any _).mono ?_
  rintro e w1 ⟨rfl, hb⟩
  have hz : w.heap.size < w1.heap.size := by have := hb.size; simp at this; omega
  have HB := Lib.hid (below_step (below_new w _) hb)
  obtain ⟨hc, hf⟩ := bcell hb
  clear hb
  go_wp2_with fail
  refine (check_yes _ _ _ _ _ HX.out).mono ?_
  rintro e w2 ⟨rfl, hb⟩
  have hz2 : w.heap.size < w2.heap.size := by have := hb.size; omega
  have HB2 := Lib.hid (below_step HB.out hb)
  obtain ⟨hc2, hf2⟩ := bcell hb
  clear hb
  go_wp2_with fail
  refine (check_no _ _ _ _ _ HY.out).mono ?_
  rintro e w3 ⟨rfl, hb⟩
  have HB3 := Lib.hid (below_step (HB2.out.alloc HB2.out.size _) hb)
  obtain ⟨hc3, hf3⟩ := bcell hb
  clear hb
  go_wp2_with fail
  go_ret
  exact ⟨ret_bool (by simp), HB3.out⟩

set_option maxRecDepth 100000 in
set_option maxHeartbeats 2000000 in
theorem walk_both (N W R K m kind blocks : Int) (w : World) (h : May N W R K) (hm : 0 ≤ m) (hm2 : m < 65536) (hx : K + m ≤ 65536) :
    Calls Try.prog 4 #[.agg #[.int .i64 N, .int .i64 W, .int .i64 R, .int .i64 K], .int .u16 m, .int .i64 kind, .int .i64 blocks] w fun e w' => e = .returned (.bool true) ∧ Below w.heap.size w w' := by
  have h' : May N W R (K + m) := ⟨h.n0, h.n1, h.w0, h.w1, h.r0, h.r1, by have := h.k0; omega, hx, h.nw⟩
  have l1 : lagI N W (K + m) ≤ lagI N W K := lag_mono h (by omega)
  have l2 : settleI N W (K + m) ≤ settleI N W K := settle_mono h (by omega)
  have l3 : pauseI N W R K kind blocks ≤ pauseI N W R (K + m) kind blocks := pause_mono h h' (by omega)
  have HP := Lib.hid fun w' => pause_any N W R K kind blocks w'
  have HQ := Lib.hid fun w' => pause_any N W R (K + m) kind blocks w'
  generalize pauseI N W R K kind blocks = p at *
  generalize pauseI N W R (K + m) kind blocks = q at *
  have k0 := h.k0; have k1 := h.k1
  have HX := Lib.hid h
  have HY := Lib.hid h'
  clear h h'
  go_enter Try.func4, Try.ntmps4
  go_wp2_with fail
  refine (begun3_any _).mono ?_
  rintro e w1 ⟨rfl, hb⟩
  have hz : w.heap.size < w1.heap.size := by have := hb.size; simp at this; omega
  have HB := Lib.hid (below_step (below_new w _) hb)
  obtain ⟨hc, hf⟩ := bcell hb
  clear hb
  go_wp2_with fail
  refine (check_yes _ _ _ _ _ HX.out).mono ?_
  rintro e w2 ⟨rfl, hb⟩
  have hz2 : w.heap.size < w2.heap.size := by have := hb.size; omega
  have HB2 := Lib.hid (below_step HB.out hb)
  obtain ⟨hc2, hf2⟩ := bcell hb
  clear hb
  go_wp2_with fail
  refine (check_yes _ _ _ _ _ HY.out).mono ?_
  rintro e w3 ⟨rfl, hb⟩
  have hz3 : w2.heap.size < w3.heap.size := by have := hb.size; simp at this; omega
  have HB3 := Lib.hid (below_step (HB2.out.alloc HB2.out.size _) hb)
  -- the two configurations, from here on
  have c0 : w3.cell? ⟨w.heap.size, 0, none⟩ = some (.int .i64 N) := by
    rw [(bcell hb).1 _ _ (by simp; omega), World.cell?_alloc_past _ _ _ hz2, hc2 _ _ hz, hc _ _ (by simp)]; go_simp
  have c1 : w3.cell? ⟨w.heap.size, 1, none⟩ = some (.int .i64 W) := by
    rw [(bcell hb).1 _ _ (by simp; omega), World.cell?_alloc_past _ _ _ hz2, hc2 _ _ hz, hc _ _ (by simp)]; go_simp
  have c2 : w3.cell? ⟨w.heap.size, 2, none⟩ = some (.int .i64 R) := by
    rw [(bcell hb).1 _ _ (by simp; omega), World.cell?_alloc_past _ _ _ hz2, hc2 _ _ hz, hc _ _ (by simp)]; go_simp
  have c3 : w3.cell? ⟨w.heap.size, 3, none⟩ = some (.int .i64 K) := by
    rw [(bcell hb).1 _ _ (by simp; omega), World.cell?_alloc_past _ _ _ hz2, hc2 _ _ hz, hc _ _ (by simp)]; go_simp
  have d0 : w3.cell? ⟨w2.heap.size, 0, none⟩ = some (.int .i64 N) := by rw [(bcell hb).1 _ _ (by simp)]; go_simp
  have d1 : w3.cell? ⟨w2.heap.size, 1, none⟩ = some (.int .i64 W) := by rw [(bcell hb).1 _ _ (by simp)]; go_simp
  have d2 : w3.cell? ⟨w2.heap.size, 2, none⟩ = some (.int .i64 R) := by rw [(bcell hb).1 _ _ (by simp)]; go_simp
  have d3 : w3.cell? ⟨w2.heap.size, 3, none⟩ = some (.int .i64 (K + m)) := by rw [(bcell hb).1 _ _ (by simp)]; go_simp
  clear hb hc hf hc2 hf2 HB HB2
  go_wp2_with fail
  refine (of_yes _ _ _ _ _ HX.out).mono ?_
  rintro e w4 ⟨rfl, hb⟩
  have hz4 : w2.heap.size < w4.heap.size := by have := hb.size; omega
  have hz4' : w.heap.size < w4.heap.size := by omega
  have HB4 := Lib.hid (below_step HB3.out hb)
  rw [← (bcell hb).1 _ _ (by omega)] at c0 c1 c2 c3 d0 d1 d2 d3
  clear hb HB3
  unfold numsV
  go_wp2_with fail
  refine (of_yes _ _ _ _ _ HY.out).mono ?_
  rintro e w5 ⟨rfl, hb⟩
  have hz5 : w4.heap.size < w5.heap.size := by have := hb.size; simp at this; omega
  have HB5 := Lib.hid (below_step (HB4.out.alloc HB4.out.size _) hb)
  have a0 : w5.cell? ⟨w4.heap.size, 0, none⟩ = some (.int .i64 (wordsI N W R)) := by rw [(bcell hb).1 _ _ (by simp)]; go_simp
  have a4 : w5.cell? ⟨w4.heap.size, 4, none⟩ = some (.int .i64 (epochI N W)) := by rw [(bcell hb).1 _ _ (by simp)]; go_simp
  have a6 : w5.cell? ⟨w4.heap.size, 6, none⟩ = some (.int .i64 (lagI N W K)) := by rw [(bcell hb).1 _ _ (by simp)]; go_simp
  have a7 : w5.cell? ⟨w4.heap.size, 7, none⟩ = some (.int .i64 (settleI N W K)) := by rw [(bcell hb).1 _ _ (by simp)]; go_simp
  rw [← World.cell?_alloc_past _ _ _ (by omega), ← (bcell hb).1 _ _ (by simp; omega)] at c0 c1 c2 c3 d0 d1 d2 d3
  clear hb HB4
  unfold numsV
  go_wp2_with fail
  have c0 := fun w' (hC : Below (w5.alloc (.cells #[.int .i64 (wordsI N W R), .int .i64 (W - 8), .int .i64 (W - 7), .int .i64 (fieldsI W), .int .i64 (epochI N W), .int .i64 (drainI N W), .int .i64 (lagI N W (K + m)), .int .i64 (settleI N W (K + m))] 31)).heap.size (w5.alloc (.cells #[.int .i64 (wordsI N W R), .int .i64 (W - 8), .int .i64 (W - 7), .int .i64 (fieldsI W), .int .i64 (epochI N W), .int .i64 (drainI N W), .int .i64 (lagI N W (K + m)), .int .i64 (settleI N W (K + m))] 31)) w') => (hC.cell (p := ⟨w.heap.size, 0, none⟩) (by simp; omega)).trans (show _ = some (.int .i64 N) by rw [World.cell?_alloc_past _ _ _ (by omega)]; exact c0)
  have c1 := fun w' (hC : Below (w5.alloc (.cells #[.int .i64 (wordsI N W R), .int .i64 (W - 8), .int .i64 (W - 7), .int .i64 (fieldsI W), .int .i64 (epochI N W), .int .i64 (drainI N W), .int .i64 (lagI N W (K + m)), .int .i64 (settleI N W (K + m))] 31)).heap.size (w5.alloc (.cells #[.int .i64 (wordsI N W R), .int .i64 (W - 8), .int .i64 (W - 7), .int .i64 (fieldsI W), .int .i64 (epochI N W), .int .i64 (drainI N W), .int .i64 (lagI N W (K + m)), .int .i64 (settleI N W (K + m))] 31)) w') => (hC.cell (p := ⟨w.heap.size, 1, none⟩) (by simp; omega)).trans (show _ = some (.int .i64 W) by rw [World.cell?_alloc_past _ _ _ (by omega)]; exact c1)
  have c2 := fun w' (hC : Below (w5.alloc (.cells #[.int .i64 (wordsI N W R), .int .i64 (W - 8), .int .i64 (W - 7), .int .i64 (fieldsI W), .int .i64 (epochI N W), .int .i64 (drainI N W), .int .i64 (lagI N W (K + m)), .int .i64 (settleI N W (K + m))] 31)).heap.size (w5.alloc (.cells #[.int .i64 (wordsI N W R), .int .i64 (W - 8), .int .i64 (W - 7), .int .i64 (fieldsI W), .int .i64 (epochI N W), .int .i64 (drainI N W), .int .i64 (lagI N W (K + m)), .int .i64 (settleI N W (K + m))] 31)) w') => (hC.cell (p := ⟨w.heap.size, 2, none⟩) (by simp; omega)).trans (show _ = some (.int .i64 R) by rw [World.cell?_alloc_past _ _ _ (by omega)]; exact c2)
  have c3 := fun w' (hC : Below (w5.alloc (.cells #[.int .i64 (wordsI N W R), .int .i64 (W - 8), .int .i64 (W - 7), .int .i64 (fieldsI W), .int .i64 (epochI N W), .int .i64 (drainI N W), .int .i64 (lagI N W (K + m)), .int .i64 (settleI N W (K + m))] 31)).heap.size (w5.alloc (.cells #[.int .i64 (wordsI N W R), .int .i64 (W - 8), .int .i64 (W - 7), .int .i64 (fieldsI W), .int .i64 (epochI N W), .int .i64 (drainI N W), .int .i64 (lagI N W (K + m)), .int .i64 (settleI N W (K + m))] 31)) w') => (hC.cell (p := ⟨w.heap.size, 3, none⟩) (by simp; omega)).trans (show _ = some (.int .i64 K) by rw [World.cell?_alloc_past _ _ _ (by omega)]; exact c3)
  have d0 := fun w' (hC : Below (w5.alloc (.cells #[.int .i64 (wordsI N W R), .int .i64 (W - 8), .int .i64 (W - 7), .int .i64 (fieldsI W), .int .i64 (epochI N W), .int .i64 (drainI N W), .int .i64 (lagI N W (K + m)), .int .i64 (settleI N W (K + m))] 31)).heap.size (w5.alloc (.cells #[.int .i64 (wordsI N W R), .int .i64 (W - 8), .int .i64 (W - 7), .int .i64 (fieldsI W), .int .i64 (epochI N W), .int .i64 (drainI N W), .int .i64 (lagI N W (K + m)), .int .i64 (settleI N W (K + m))] 31)) w') => (hC.cell (p := ⟨w2.heap.size, 0, none⟩) (by simp; omega)).trans (show _ = some (.int .i64 N) by rw [World.cell?_alloc_past _ _ _ (by omega)]; exact d0)
  have d1 := fun w' (hC : Below (w5.alloc (.cells #[.int .i64 (wordsI N W R), .int .i64 (W - 8), .int .i64 (W - 7), .int .i64 (fieldsI W), .int .i64 (epochI N W), .int .i64 (drainI N W), .int .i64 (lagI N W (K + m)), .int .i64 (settleI N W (K + m))] 31)).heap.size (w5.alloc (.cells #[.int .i64 (wordsI N W R), .int .i64 (W - 8), .int .i64 (W - 7), .int .i64 (fieldsI W), .int .i64 (epochI N W), .int .i64 (drainI N W), .int .i64 (lagI N W (K + m)), .int .i64 (settleI N W (K + m))] 31)) w') => (hC.cell (p := ⟨w2.heap.size, 1, none⟩) (by simp; omega)).trans (show _ = some (.int .i64 W) by rw [World.cell?_alloc_past _ _ _ (by omega)]; exact d1)
  have d2 := fun w' (hC : Below (w5.alloc (.cells #[.int .i64 (wordsI N W R), .int .i64 (W - 8), .int .i64 (W - 7), .int .i64 (fieldsI W), .int .i64 (epochI N W), .int .i64 (drainI N W), .int .i64 (lagI N W (K + m)), .int .i64 (settleI N W (K + m))] 31)).heap.size (w5.alloc (.cells #[.int .i64 (wordsI N W R), .int .i64 (W - 8), .int .i64 (W - 7), .int .i64 (fieldsI W), .int .i64 (epochI N W), .int .i64 (drainI N W), .int .i64 (lagI N W (K + m)), .int .i64 (settleI N W (K + m))] 31)) w') => (hC.cell (p := ⟨w2.heap.size, 2, none⟩) (by simp; omega)).trans (show _ = some (.int .i64 R) by rw [World.cell?_alloc_past _ _ _ (by omega)]; exact d2)
  have d3 := fun w' (hC : Below (w5.alloc (.cells #[.int .i64 (wordsI N W R), .int .i64 (W - 8), .int .i64 (W - 7), .int .i64 (fieldsI W), .int .i64 (epochI N W), .int .i64 (drainI N W), .int .i64 (lagI N W (K + m)), .int .i64 (settleI N W (K + m))] 31)).heap.size (w5.alloc (.cells #[.int .i64 (wordsI N W R), .int .i64 (W - 8), .int .i64 (W - 7), .int .i64 (fieldsI W), .int .i64 (epochI N W), .int .i64 (drainI N W), .int .i64 (lagI N W (K + m)), .int .i64 (settleI N W (K + m))] 31)) w') => (hC.cell (p := ⟨w2.heap.size, 3, none⟩) (by simp; omega)).trans (show _ = some (.int .i64 (K + m)) by rw [World.cell?_alloc_past _ _ _ (by omega)]; exact d3)
  have a0 := fun w' (hC : Below (w5.alloc (.cells #[.int .i64 (wordsI N W R), .int .i64 (W - 8), .int .i64 (W - 7), .int .i64 (fieldsI W), .int .i64 (epochI N W), .int .i64 (drainI N W), .int .i64 (lagI N W (K + m)), .int .i64 (settleI N W (K + m))] 31)).heap.size (w5.alloc (.cells #[.int .i64 (wordsI N W R), .int .i64 (W - 8), .int .i64 (W - 7), .int .i64 (fieldsI W), .int .i64 (epochI N W), .int .i64 (drainI N W), .int .i64 (lagI N W (K + m)), .int .i64 (settleI N W (K + m))] 31)) w') => (hC.cell (p := ⟨w4.heap.size, 0, none⟩) (by simp; omega)).trans (show _ = some (.int .i64 (wordsI N W R)) by rw [World.cell?_alloc_past _ _ _ (by omega)]; exact a0)
  have a4 := fun w' (hC : Below (w5.alloc (.cells #[.int .i64 (wordsI N W R), .int .i64 (W - 8), .int .i64 (W - 7), .int .i64 (fieldsI W), .int .i64 (epochI N W), .int .i64 (drainI N W), .int .i64 (lagI N W (K + m)), .int .i64 (settleI N W (K + m))] 31)).heap.size (w5.alloc (.cells #[.int .i64 (wordsI N W R), .int .i64 (W - 8), .int .i64 (W - 7), .int .i64 (fieldsI W), .int .i64 (epochI N W), .int .i64 (drainI N W), .int .i64 (lagI N W (K + m)), .int .i64 (settleI N W (K + m))] 31)) w') => (hC.cell (p := ⟨w4.heap.size, 4, none⟩) (by simp; omega)).trans (show _ = some (.int .i64 (epochI N W)) by rw [World.cell?_alloc_past _ _ _ (by omega)]; exact a4)
  have a6 := fun w' (hC : Below (w5.alloc (.cells #[.int .i64 (wordsI N W R), .int .i64 (W - 8), .int .i64 (W - 7), .int .i64 (fieldsI W), .int .i64 (epochI N W), .int .i64 (drainI N W), .int .i64 (lagI N W (K + m)), .int .i64 (settleI N W (K + m))] 31)).heap.size (w5.alloc (.cells #[.int .i64 (wordsI N W R), .int .i64 (W - 8), .int .i64 (W - 7), .int .i64 (fieldsI W), .int .i64 (epochI N W), .int .i64 (drainI N W), .int .i64 (lagI N W (K + m)), .int .i64 (settleI N W (K + m))] 31)) w') => (hC.cell (p := ⟨w4.heap.size, 6, none⟩) (by simp; omega)).trans (show _ = some (.int .i64 (lagI N W K)) by rw [World.cell?_alloc_past _ _ _ (by omega)]; exact a6)
  have a7 := fun w' (hC : Below (w5.alloc (.cells #[.int .i64 (wordsI N W R), .int .i64 (W - 8), .int .i64 (W - 7), .int .i64 (fieldsI W), .int .i64 (epochI N W), .int .i64 (drainI N W), .int .i64 (lagI N W (K + m)), .int .i64 (settleI N W (K + m))] 31)).heap.size (w5.alloc (.cells #[.int .i64 (wordsI N W R), .int .i64 (W - 8), .int .i64 (W - 7), .int .i64 (fieldsI W), .int .i64 (epochI N W), .int .i64 (drainI N W), .int .i64 (lagI N W (K + m)), .int .i64 (settleI N W (K + m))] 31)) w') => (hC.cell (p := ⟨w4.heap.size, 7, none⟩) (by simp; omega)).trans (show _ = some (.int .i64 (settleI N W K)) by rw [World.cell?_alloc_past _ _ _ (by omega)]; exact a7)
  have b0 := fun w' (hC : Below (w5.alloc (.cells #[.int .i64 (wordsI N W R), .int .i64 (W - 8), .int .i64 (W - 7), .int .i64 (fieldsI W), .int .i64 (epochI N W), .int .i64 (drainI N W), .int .i64 (lagI N W (K + m)), .int .i64 (settleI N W (K + m))] 31)).heap.size (w5.alloc (.cells #[.int .i64 (wordsI N W R), .int .i64 (W - 8), .int .i64 (W - 7), .int .i64 (fieldsI W), .int .i64 (epochI N W), .int .i64 (drainI N W), .int .i64 (lagI N W (K + m)), .int .i64 (settleI N W (K + m))] 31)) w') => (hC.cell (p := ⟨w5.heap.size, 0, none⟩) (by simp)).trans (show _ = some (.int .i64 (wordsI N W R)) by go_simp)
  have b4 := fun w' (hC : Below (w5.alloc (.cells #[.int .i64 (wordsI N W R), .int .i64 (W - 8), .int .i64 (W - 7), .int .i64 (fieldsI W), .int .i64 (epochI N W), .int .i64 (drainI N W), .int .i64 (lagI N W (K + m)), .int .i64 (settleI N W (K + m))] 31)).heap.size (w5.alloc (.cells #[.int .i64 (wordsI N W R), .int .i64 (W - 8), .int .i64 (W - 7), .int .i64 (fieldsI W), .int .i64 (epochI N W), .int .i64 (drainI N W), .int .i64 (lagI N W (K + m)), .int .i64 (settleI N W (K + m))] 31)) w') => (hC.cell (p := ⟨w5.heap.size, 4, none⟩) (by simp)).trans (show _ = some (.int .i64 (epochI N W)) by go_simp)
  have b6 := fun w' (hC : Below (w5.alloc (.cells #[.int .i64 (wordsI N W R), .int .i64 (W - 8), .int .i64 (W - 7), .int .i64 (fieldsI W), .int .i64 (epochI N W), .int .i64 (drainI N W), .int .i64 (lagI N W (K + m)), .int .i64 (settleI N W (K + m))] 31)).heap.size (w5.alloc (.cells #[.int .i64 (wordsI N W R), .int .i64 (W - 8), .int .i64 (W - 7), .int .i64 (fieldsI W), .int .i64 (epochI N W), .int .i64 (drainI N W), .int .i64 (lagI N W (K + m)), .int .i64 (settleI N W (K + m))] 31)) w') => (hC.cell (p := ⟨w5.heap.size, 6, none⟩) (by simp)).trans (show _ = some (.int .i64 (lagI N W (K + m))) by go_simp)
  have b7 := fun w' (hC : Below (w5.alloc (.cells #[.int .i64 (wordsI N W R), .int .i64 (W - 8), .int .i64 (W - 7), .int .i64 (fieldsI W), .int .i64 (epochI N W), .int .i64 (drainI N W), .int .i64 (lagI N W (K + m)), .int .i64 (settleI N W (K + m))] 31)).heap.size (w5.alloc (.cells #[.int .i64 (wordsI N W R), .int .i64 (W - 8), .int .i64 (W - 7), .int .i64 (fieldsI W), .int .i64 (epochI N W), .int .i64 (drainI N W), .int .i64 (lagI N W (K + m)), .int .i64 (settleI N W (K + m))] 31)) w') => (hC.cell (p := ⟨w5.heap.size, 7, none⟩) (by simp)).trans (show _ = some (.int .i64 (settleI N W (K + m))) by go_simp)
  refine wp_region_tame_all [Fact.is (.pointer (some ⟨w5.heap.size, 6, none⟩)), Fact.is (.int .i64 (lagI N W (K + m))), Fact.is (.pointer (some ⟨w4.heap.size, 6, none⟩)), Fact.is (.int .i64 (lagI N W K)), Fact.is (.bool true), Fact.is (.bool true), Fact.is (.pointer (some ⟨w5.heap.size, 7, none⟩)), Fact.is (.int .i64 (settleI N W (K + m))), Fact.is (.pointer (some ⟨w4.heap.size, 7, none⟩)), Fact.is (.int .i64 (settleI N W K)), Fact.is (.bool true), Fact.is (.bool true), Fact.is (.bool true), Fact.is (.pointer (some ⟨w4.heap.size, 4, none⟩)), Fact.is (.int .i64 (epochI N W)), Fact.is (.pointer (some ⟨w5.heap.size, 4, none⟩)), Fact.is (.int .i64 (epochI N W)), Fact.is (.bool true), Fact.is (.bool true), Fact.is (.bool true), Fact.is (.pointer (some ⟨w4.heap.size, 0, none⟩)), Fact.is (.int .i64 (wordsI N W R)), Fact.is (.pointer (some ⟨w5.heap.size, 0, none⟩)), Fact.is (.int .i64 (wordsI N W R)), Fact.is (.bool true), Fact.is (.bool true), Fact.is (.bool true), Fact.is (.agg #[.int .i64 N, .int .i64 W, .int .i64 R, .int .i64 (K + m)]), Fact.is (.int .i64 kind), Fact.is (.int .i64 blocks), Fact.is (.int .i64 q), Fact.is (.agg #[.int .i64 N, .int .i64 W, .int .i64 R, .int .i64 K]), Fact.is (.int .i64 kind), Fact.is (.int .i64 blocks), Fact.is (.int .i64 p), Fact.is (.bool true), Fact.is (.bool true), Fact.is (.bool true)] (by kernel_rfl) (by kernel_rfl) rfl (by kernel_rfl) (fun ops K2 hops hK => ?_)
  refine walkT_is (wantedN rfl) (fun w' hC hd => tame_1 12 (.pointer (some ⟨w5.heap.size, 0, none⟩)) rfl (fun ρ hρ hf e0 => upon_is (by go_simp))) (by go_frame; rfl) (by simp only [List.nil_append, List.cons_append]; rfl) ?_
  refine walkT_is (wantedN rfl) (fun w' hC hd => tame_1 45 (.pointer (some ⟨w5.heap.size, 6, none⟩)) rfl (fun ρ hρ hf e0 => upon_is (by have hc0 := b6 w' hC; go_simp))) (by go_frame; rfl) (by simp only [List.nil_append, List.cons_append]; rfl) ?_
  refine walkT_is (wantedN rfl) (fun w' hC hd => tame_1 10 (.pointer (some ⟨w4.heap.size, 0, none⟩)) rfl (fun ρ hρ hf e0 => upon_is (by go_simp))) (by go_frame; rfl) (by simp only [List.nil_append, List.cons_append]; rfl) ?_
  refine walkT_is (wantedN rfl) (fun w' hC hd => tame_1 47 (.pointer (some ⟨w4.heap.size, 6, none⟩)) rfl (fun ρ hρ hf e0 => upon_is (by have hc0 := a6 w' hC; go_simp))) (by go_frame; rfl) (by simp only [List.nil_append, List.cons_append]; rfl) ?_
  refine walkT_is (wantedN rfl) (fun w' hC hd => tame_2 46 (.int .i64 (lagI N W (K + m))) 48 (.int .i64 (lagI N W K)) rfl rfl (fun ρ hρ hf e0 e1 => upon_is (by have hb0 := l1; go_simp))) (by go_frame; rfl) (by simp only [List.nil_append, List.cons_append]; rfl) ?_
  refine walkT_is (wantedN rfl) (fun w' hC hd => tame_move _ (.inl rfl) rfl) (by go_frame; rfl) (by simp only [List.nil_append, List.cons_append]; rfl) ?_
  refine walkT_is (wantedT hops rfl rfl rfl rfl) (fun w' hC hd => tame_1 12 (.pointer (some ⟨w5.heap.size, 0, none⟩)) rfl (fun ρ hρ hf e0 => upon_is (by go_simp))) (by go_frame; rfl) (by simp only [List.nil_append, List.cons_append]; rfl) ?_
  refine walkT_is (wantedT hops rfl rfl rfl rfl) (fun w' hC hd => tame_1 51 (.pointer (some ⟨w5.heap.size, 7, none⟩)) rfl (fun ρ hρ hf e0 => upon_is (by have hc0 := b7 w' hC; go_simp))) (by go_frame; rfl) (by simp only [List.nil_append, List.cons_append]; rfl) ?_
  refine walkT_is (wantedT hops rfl rfl rfl rfl) (fun w' hC hd => tame_1 10 (.pointer (some ⟨w4.heap.size, 0, none⟩)) rfl (fun ρ hρ hf e0 => upon_is (by go_simp))) (by go_frame; rfl) (by simp only [List.nil_append, List.cons_append]; rfl) ?_
  refine walkT_is (wantedT hops rfl rfl rfl rfl) (fun w' hC hd => tame_1 53 (.pointer (some ⟨w4.heap.size, 7, none⟩)) rfl (fun ρ hρ hf e0 => upon_is (by have hc0 := a7 w' hC; go_simp))) (by go_frame; rfl) (by simp only [List.nil_append, List.cons_append]; rfl) ?_
  refine walkT_is (wantedT hops rfl rfl rfl rfl) (fun w' hC hd => tame_2 52 (.int .i64 (settleI N W (K + m))) 54 (.int .i64 (settleI N W K)) rfl rfl (fun ρ hρ hf e0 e1 => upon_is (by have hb0 := l2; go_simp))) (by go_frame; rfl) (by simp only [List.nil_append, List.cons_append]; rfl) ?_
  refine walkT_is (wantedN rfl) (fun w' hC hd => tame_pick _ _ _ true rfl rfl rfl) (by go_frame; rfl) (by simp only [List.nil_append, List.cons_append]; rfl) ?_
  refine walkT_is (wantedN rfl) (fun w' hC hd => tame_move _ (.inl rfl) rfl) (by go_frame; rfl) (by simp only [List.nil_append, List.cons_append]; rfl) ?_
  refine walkT_is (wantedT hops rfl rfl rfl rfl) (fun w' hC hd => tame_1 10 (.pointer (some ⟨w4.heap.size, 0, none⟩)) rfl (fun ρ hρ hf e0 => upon_is (by go_simp))) (by go_frame; rfl) (by simp only [List.nil_append, List.cons_append]; rfl) ?_
  refine walkT_is (wantedT hops rfl rfl rfl rfl) (fun w' hC hd => tame_1 58 (.pointer (some ⟨w4.heap.size, 4, none⟩)) rfl (fun ρ hρ hf e0 => upon_is (by have hc0 := a4 w' hC; go_simp))) (by go_frame; rfl) (by simp only [List.nil_append, List.cons_append]; rfl) ?_
  refine walkT_is (wantedT hops rfl rfl rfl rfl) (fun w' hC hd => tame_1 12 (.pointer (some ⟨w5.heap.size, 0, none⟩)) rfl (fun ρ hρ hf e0 => upon_is (by go_simp))) (by go_frame; rfl) (by simp only [List.nil_append, List.cons_append]; rfl) ?_
  refine walkT_is (wantedT hops rfl rfl rfl rfl) (fun w' hC hd => tame_1 60 (.pointer (some ⟨w5.heap.size, 4, none⟩)) rfl (fun ρ hρ hf e0 => upon_is (by have hc0 := b4 w' hC; go_simp))) (by go_frame; rfl) (by simp only [List.nil_append, List.cons_append]; rfl) ?_
  refine walkT_is (wantedT hops rfl rfl rfl rfl) (fun w' hC hd => tame_2 59 (.int .i64 (epochI N W)) 61 (.int .i64 (epochI N W)) rfl rfl (fun ρ hρ hf e0 e1 => upon_is (by go_simp))) (by go_frame; rfl) (by simp only [List.nil_append, List.cons_append]; rfl) ?_
  refine walkT_is (wantedN rfl) (fun w' hC hd => tame_pick _ _ _ true rfl rfl rfl) (by go_frame; rfl) (by simp only [List.nil_append, List.cons_append]; rfl) ?_
  refine walkT_is (wantedN rfl) (fun w' hC hd => tame_move _ (.inl rfl) rfl) (by go_frame; rfl) (by simp only [List.nil_append, List.cons_append]; rfl) ?_
  refine walkT_is (wantedT hops rfl rfl rfl rfl) (fun w' hC hd => tame_1 10 (.pointer (some ⟨w4.heap.size, 0, none⟩)) rfl (fun ρ hρ hf e0 => upon_is (by go_simp))) (by go_frame; rfl) (by simp only [List.nil_append, List.cons_append]; rfl) ?_
  refine walkT_is (wantedT hops rfl rfl rfl rfl) (fun w' hC hd => tame_1 65 (.pointer (some ⟨w4.heap.size, 0, none⟩)) rfl (fun ρ hρ hf e0 => upon_is (by have hc0 := a0 w' hC; go_simp))) (by go_frame; rfl) (by simp only [List.nil_append, List.cons_append]; rfl) ?_
  refine walkT_is (wantedT hops rfl rfl rfl rfl) (fun w' hC hd => tame_1 12 (.pointer (some ⟨w5.heap.size, 0, none⟩)) rfl (fun ρ hρ hf e0 => upon_is (by go_simp))) (by go_frame; rfl) (by simp only [List.nil_append, List.cons_append]; rfl) ?_
  refine walkT_is (wantedT hops rfl rfl rfl rfl) (fun w' hC hd => tame_1 67 (.pointer (some ⟨w5.heap.size, 0, none⟩)) rfl (fun ρ hρ hf e0 => upon_is (by have hc0 := b0 w' hC; go_simp))) (by go_frame; rfl) (by simp only [List.nil_append, List.cons_append]; rfl) ?_
  refine walkT_is (wantedT hops rfl rfl rfl rfl) (fun w' hC hd => tame_2 66 (.int .i64 (wordsI N W R)) 68 (.int .i64 (wordsI N W R)) rfl rfl (fun ρ hρ hf e0 e1 => upon_is (by go_simp))) (by go_frame; rfl) (by simp only [List.nil_append, List.cons_append]; rfl) ?_
  refine walkT_is (wantedN rfl) (fun w' hC hd => tame_pick _ _ _ true rfl rfl rfl) (by go_frame; rfl) (by simp only [List.nil_append, List.cons_append]; rfl) ?_
  refine walkT_is (wantedN rfl) (fun w' hC hd => tame_move _ (.inl rfl) rfl) (by go_frame; rfl) (by simp only [List.nil_append, List.cons_append]; rfl) ?_
  refine walkT_is (wantedT hops rfl rfl rfl rfl) (fun w' hC hd => tame_1 9 (.pointer (some ⟨w2.heap.size, 0, none⟩)) rfl (fun ρ hρ hf e0 => upon_is (by have hc0 := d0 w' hC; have hc1 := d1 w' hC; have hc2 := d2 w' hC; have hc3 := d3 w' hC; go_simp))) (by go_frame; rfl) (by simp only [List.nil_append, List.cons_append]; rfl) ?_
  refine walkT_is (wantedT hops rfl rfl rfl rfl) (fun w' hC hd => tame_move _ (.inl rfl) rfl) (by go_frame; rfl) (by simp only [List.nil_append, List.cons_append]; rfl) ?_
  refine walkT_is (wantedT hops rfl rfl rfl rfl) (fun w' hC hd => tame_move _ (.inl rfl) rfl) (by go_frame; rfl) (by simp only [List.nil_append, List.cons_append]; rfl) ?_
  refine walkT_is (wantedT hops rfl rfl rfl rfl) (fun w' hC hd => tame_3 72 (.agg #[.int .i64 N, .int .i64 W, .int .i64 R, .int .i64 (K + m)]) 73 (.int .i64 kind) 74 (.int .i64 blocks) rfl rfl rfl (fun ρ hρ hf e0 e1 e2 => upon_call_below (f := 8) (by go_simp) (HQ.out w'))) (by go_frame; rfl) (by simp only [List.nil_append, List.cons_append]; rfl) ?_
  refine walkT_is (wantedT hops rfl rfl rfl rfl) (fun w' hC hd => tame_1 4 (.pointer (some ⟨w.heap.size, 0, none⟩)) rfl (fun ρ hρ hf e0 => upon_is (by have hc0 := c0 w' hC; have hc1 := c1 w' hC; have hc2 := c2 w' hC; have hc3 := c3 w' hC; go_simp))) (by go_frame; rfl) (by simp only [List.nil_append, List.cons_append]; rfl) ?_
  refine walkT_is (wantedT hops rfl rfl rfl rfl) (fun w' hC hd => tame_move _ (.inl rfl) rfl) (by go_frame; rfl) (by simp only [List.nil_append, List.cons_append]; rfl) ?_
  refine walkT_is (wantedT hops rfl rfl rfl rfl) (fun w' hC hd => tame_move _ (.inl rfl) rfl) (by go_frame; rfl) (by simp only [List.nil_append, List.cons_append]; rfl) ?_
  refine walkT_is (wantedT hops rfl rfl rfl rfl) (fun w' hC hd => tame_3 76 (.agg #[.int .i64 N, .int .i64 W, .int .i64 R, .int .i64 K]) 77 (.int .i64 kind) 78 (.int .i64 blocks) rfl rfl rfl (fun ρ hρ hf e0 e1 e2 => upon_call_below (f := 8) (by go_simp) (HP.out w'))) (by go_frame; rfl) (by simp only [List.nil_append, List.cons_append]; rfl) ?_
  refine walkT_is (wantedT hops rfl rfl rfl rfl) (fun w' hC hd => tame_2 75 (.int .i64 q) 79 (.int .i64 p) rfl rfl (fun ρ hρ hf e0 e1 => upon_is (by have hb0 := l3; go_simp))) (by go_frame; rfl) (by simp only [List.nil_append, List.cons_append]; rfl) ?_
  refine walkT_is (wantedN rfl) (fun w' hC hd => tame_pick _ _ _ true rfl rfl rfl) (by go_frame; rfl) (by simp only [List.nil_append, List.cons_append]; rfl) ?_
  refine walkT_is (wantedN rfl) (fun w' hC hd => tame_move _ (.inr rfl) rfl) (by go_frame; rfl) (by simp only [List.nil_append, List.cons_append]; rfl) ?_
  refine walkT_nil fun w6 hC6 _ => hK _ _ ?_
  have HB6 := Lib.hid (below_step (HB5.out.alloc HB5.out.size _) hC6)
  clear c0 c1 c2 c3 d0 d1 d2 d3 a0 a4 a6 a7 b0 b4 b6 b7 hC6
  go_wp2_with fail
  go_ret
  exact ⟨rfl, HB6.out⟩

theorem walk (N W R K m kind blocks : Int) (w : World) (hn : (Lit.int .i64 N).wf = true) (hw : (Lit.int .i64 W).wf = true) (hr : (Lit.int .i64 R).wf = true) (hk : (Lit.int .i64 K).wf = true) (hm : (Lit.int .u16 m).wf = true) (ha : (Lit.int .i64 kind).wf = true) (hb : (Lit.int .i64 blocks).wf = true) :
    Calls Try.prog 4 #[.agg #[.int .i64 N, .int .i64 W, .int .i64 R, .int .i64 K], .int .u16 m, .int .i64 kind, .int .i64 blocks] w fun e w' => e = .returned (.bool true) ∧ Below w.heap.size w w' := by
  have hm' : 0 ≤ m ∧ m < 65536 := by simp [Lit.wf, IntKind.min, IntKind.max, IntKind.bits, IntKind.signed] at hm; omega
  cases hq : mayB N W R K with
  | false => exact walk_no N W R K m kind blocks w hq
  | true =>
    have h := may_of hq
    by_cases h1 : K + m ≤ 65536
    · exact walk_both N W R K m kind blocks w h hm'.1 hm'.2 h1
    · exact walk_much N W R K m kind blocks w h hm'.1 hm'.2 (by omega)

/-! ### The row -/
set_option maxRecDepth 100000 in
theorem lifted (os : Os) (started : os.Started) (H : Type) (enc : TypeId × Value → H) :
    ReturnsInHanded {} Try.checked os 4 .any (Rows.planMoreSpec.pre6 enc Try.prog Try.f4 Rows.planMoreRow.domain false) (Rows.planMoreSpec.post enc Try.prog Try.f4 false true false false) := by
  refine returnsInHanded_of_change (C := Try.checked) own started (by kernel_rfl) Try.func4
    (ChangeSpec.witness6 (enc := enc) (C := Try.checked) false ⟨#[], #[.agg #[.int .i64 0, .int .i64 0, .int .i64 0, .int .i64 0], .int .u16 0, .int .i64 0, .int .i64 0], []⟩ 8 (by kernel_rfl) (by kernel_rfl) (by kernel_rfl) (by kernel_rfl)) ?_
  intro W base args ds gs before hval0 hW hcnd _
  have hval : ∀ (j : Nat) t v, Try.f4.params[j]? = some t → args[j]? = some v → Value.okWide Try.prog W .any base t v := hval0
  have hW' := hW
  obtain ⟨p, q, hA0, hV, rfl, hfz, hnd⟩ := hW
  have hA : DataW.TrodAll enc Try.prog W 0 (fun _ => true) true Try.f4.params.toList args.toList ds p := hA0
  rw [Try.params4] at hA hval
  obtain ⟨v0, vs0, d0, ds0, p0, q0, hargs, rfl, rfl, h0, r0⟩ := trodAll_cons hA
  obtain ⟨v1, vs1, d1, ds1, p1, q1, rfl, rfl, rfl, h1, r1⟩ := trodAll_cons r0
  obtain ⟨v2, vs2, d2, ds2, p2, q2, rfl, rfl, rfl, h2, r2⟩ := trodAll_cons r1
  obtain ⟨v3, vs3, d3, ds3, p3, q3, rfl, rfl, rfl, h3, r3⟩ := trodAll_cons r2
  obtain ⟨rfl, rfl, rfl⟩ := trodAll_nil r3
  obtain rfl : args = #[v0, v1, v2, v3] := by cases args; simp_all
  obtain ⟨rfl, rfl⟩ := trodVars_none hV
  have k0 := h0
  have lt0 : ∀ x ∈ p0, x.block < W.heap.size := by obtain ⟨m, hm⟩ := k0; exact DataW.trod_lt m _ _ _ hm
  obtain ⟨c00, c01, c02, c03, y00, y01, y02, y03, m0, rfl, hd0, hp0, hy00, hy01, hy02, hy03⟩ := open_agg4 Try.underlying23 (by kernel_rfl) (by kernel_rfl) (hval 0 23 v0 rfl rfl) h0
  obtain ⟨a00, e00, hdd00, w00⟩ := DataW.trod_int Try.underlying3 hy00
  obtain ⟨a01, e01, hdd01, w01⟩ := DataW.trod_int Try.underlying3 hy01
  obtain ⟨a02, e02, hdd02, w02⟩ := DataW.trod_int Try.underlying3 hy02
  obtain ⟨a03, e03, hdd03, w03⟩ := DataW.trod_int Try.underlying3 hy03
  simp at e00 e01 e02 e03
  subst e00 e01 e02 e03
  have k1 := h1
  have lt1 : ∀ x ∈ p1, x.block < W.heap.size := by obtain ⟨m, hm⟩ := k1; exact DataW.trod_lt m _ _ _ hm
  obtain ⟨a1, rfl, hd1, hp1, w1⟩ := open_int Try.underlying27 (hval 1 27 v1 rfl rfl) h1
  have k2 := h2
  have lt2 : ∀ x ∈ p2, x.block < W.heap.size := by obtain ⟨m, hm⟩ := k2; exact DataW.trod_lt m _ _ _ hm
  obtain ⟨a2, rfl, hd2, hp2, w2⟩ := open_int Try.underlying3 (hval 2 3 v2 rfl rfl) h2
  have k3 := h3
  have lt3 : ∀ x ∈ p3, x.block < W.heap.size := by obtain ⟨m, hm⟩ := k3; exact DataW.trod_lt m _ _ _ hm
  obtain ⟨a3, rfl, hd3, hp3, w3⟩ := open_int Try.underlying3 (hval 3 3 v3 rfl rfl) h3
  clear hA0 hval0
  refine (walk a00 a01 a02 a03 a1 a2 a3 W w00 w01 w02 w03 w1 w2 w3).mono fun e W' ⟨he, bel⟩ => ?_
  subst he
  exact ⟨_, rfl, _, _, _, [], _, [], hW', trodAll_mk1 (shut_bool Try.underlying4 _), (trodAll_cons_mk (Below.trod laidOut (by kernel_rfl) (of_decide_eq_true (by kernel_rfl)) k0 bel lt0) (trodAll_cons_mk (Below.trod laidOut (by kernel_rfl) (of_decide_eq_true (by kernel_rfl)) k1 bel lt1) (trodAll_cons_mk (Below.trod laidOut (by kernel_rfl) (of_decide_eq_true (by kernel_rfl)) k2 bel lt2) (trodAll_cons_mk (Below.trod laidOut (by kernel_rfl) (of_decide_eq_true (by kernel_rfl)) k3 bel lt3) trodAll_mk0)))), rfl, bel.frame _, fun h => by cases h⟩

theorem over : Rows.planMoreRow.holds Try.pinned (OpenSpec.ofChange Rows.planMoreSpec) :=
  OpenClaim.holds_of_wide 4 Try.f4 rfl rfl rfl rfl rfl rfl rfl ⟨rfl, rfl, rfl, rfl, rfl⟩ rfl rfl rfl rfl rfl (by kernel_rfl) Try.func4 (by kernel_rfl)
    (of_decide_eq_true (by kernel_rfl)) (by unfold Func.isWrapper; first | (rw [if_pos (by decide +kernel)]; kernel_rfl) | (rw [if_neg (by decide +kernel)]; exact ⟨rfl, rfl⟩))
    (fun os started H enc _ => lifted os started H enc)

theorem proved : Rows.PlanMoreSaid := over
#print axioms proved
end Go.Proofs.Ytknfhkfbbnekjaa.planMore
