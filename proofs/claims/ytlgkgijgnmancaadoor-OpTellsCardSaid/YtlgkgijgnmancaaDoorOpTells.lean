/- What an operation needs, which slots, and of how many blocks it is, are the document's; for every configuration and operation. -/
import Derived.Test.YtlgkgijgnmancaaDoorRows
import Derived.Test.YtlgkgijgnmancaaDoorOpPlainEtc
import Derived.Test.YtlgkgijgnmancaaDoorTameRow
import Derived.Test.YtlgkgijgnmancaaDoorAgg
import Derived.Test.YtlgkgijgnmancaaDoorNames
import Derived.Test.YtlgkgijgnmancaaDoorCards
import Derived.Test.YtlgkgijgnmancaaDoorTie
import Derived.SevenTiedAt
import Derived.WalkKit
import Derived.ProofKit
import Derived.OpenShut
import Derived.ChangeOld
import Derived.Carry
import Derived.Lib.SmallJoins
import Derived.ChangeMaps5
namespace Go.Proofs.YtlgkgijgnmancaaDoor.opTells
open Go.ChangeShapes Go.WideShapes Go.ChangeAt Go.RowKit Go.Joins
open Go.Proofs.YtlgkgijgnmancaaDoor.Pk
set_option linter.unusedVariables false
set_option linter.unusedSimpArgs false

theorem own : ownKnob Tryd.prog.godebug = none := by kernel_rfl
theorem laidOut : laidOutB Tryd.prog = true := by kernel_rfl

theorem slots_len (k a b c : Int) : (slotsL k a b c).length ≤ 10000 := by unfold slotsL; split; · simp
                                                                          · split; · simp
                                                                            · split <;> simp
set_option maxHeartbeats 4000000 in
set_option maxRecDepth 100000 in
theorem walk (N W R K k a b c v : Int) (w : World) (hn : (Lit.int .i64 N).wf = true) (hw : (Lit.int .i64 W).wf = true) (hr : (Lit.int .i64 R).wf = true) (hk : (Lit.int .i64 K).wf = true) (w0 : (Fld.int .i64 k).ok w) (w1 : (Fld.int .i64 a).ok w) (w2 : (Fld.int .i64 b).ok w) (w3 : (Fld.int .i64 c).ok w) (w4 : (Fld.int .u32 v).ok w) (hN : NamesAt w) :
    Calls Tryd.prog 4 #[.agg #[.int .i64 N, .int .i64 W, .int .i64 R, .int .i64 K], opV k a b c v] w fun e w' => e = .returned (.bool true) ∧ Below w.heap.size w w' := by
  have HN := Lib.hid (fun w' (hC : Below ((w.alloc (.cells #[.int .i64 N, .int .i64 W, .int .i64 R, .int .i64 K] 28)).alloc (.cells #[.int .i64 k, .int .i64 a, .int .i64 b, .int .i64 c, .int .u32 v] 31)).heap.size ((w.alloc (.cells #[.int .i64 N, .int .i64 W, .int .i64 R, .int .i64 K] 28)).alloc (.cells #[.int .i64 k, .int .i64 a, .int .i64 b, .int .i64 c, .int .u32 v] 31)) w') => ((hN.alloc _).alloc _).later hC)
  have hsl := slots_len k a b c
  clear hn hw hr hk w0 w1 w2 w3 w4 hN
  go_enter Tryd.func4, Tryd.ntmps4
  go_wp2_with fail
  have d0 := fun w' (hC : Below ((w.alloc (.cells #[.int .i64 N, .int .i64 W, .int .i64 R, .int .i64 K] 28)).alloc (.cells #[.int .i64 k, .int .i64 a, .int .i64 b, .int .i64 c, .int .u32 v] 31)).heap.size ((w.alloc (.cells #[.int .i64 N, .int .i64 W, .int .i64 R, .int .i64 K] 28)).alloc (.cells #[.int .i64 k, .int .i64 a, .int .i64 b, .int .i64 c, .int .u32 v] 31)) w') => (hC.cell (p := ⟨w.heap.size, 0, none⟩) (by simp; omega)).trans (show _ = some (.int .i64 N) by rw [World.cell?_alloc_past _ _ _ (by simp)]; go_simp)
  have d1 := fun w' (hC : Below ((w.alloc (.cells #[.int .i64 N, .int .i64 W, .int .i64 R, .int .i64 K] 28)).alloc (.cells #[.int .i64 k, .int .i64 a, .int .i64 b, .int .i64 c, .int .u32 v] 31)).heap.size ((w.alloc (.cells #[.int .i64 N, .int .i64 W, .int .i64 R, .int .i64 K] 28)).alloc (.cells #[.int .i64 k, .int .i64 a, .int .i64 b, .int .i64 c, .int .u32 v] 31)) w') => (hC.cell (p := ⟨w.heap.size, 1, none⟩) (by simp; omega)).trans (show _ = some (.int .i64 W) by rw [World.cell?_alloc_past _ _ _ (by simp)]; go_simp)
  have d2 := fun w' (hC : Below ((w.alloc (.cells #[.int .i64 N, .int .i64 W, .int .i64 R, .int .i64 K] 28)).alloc (.cells #[.int .i64 k, .int .i64 a, .int .i64 b, .int .i64 c, .int .u32 v] 31)).heap.size ((w.alloc (.cells #[.int .i64 N, .int .i64 W, .int .i64 R, .int .i64 K] 28)).alloc (.cells #[.int .i64 k, .int .i64 a, .int .i64 b, .int .i64 c, .int .u32 v] 31)) w') => (hC.cell (p := ⟨w.heap.size, 2, none⟩) (by simp; omega)).trans (show _ = some (.int .i64 R) by rw [World.cell?_alloc_past _ _ _ (by simp)]; go_simp)
  have d3 := fun w' (hC : Below ((w.alloc (.cells #[.int .i64 N, .int .i64 W, .int .i64 R, .int .i64 K] 28)).alloc (.cells #[.int .i64 k, .int .i64 a, .int .i64 b, .int .i64 c, .int .u32 v] 31)).heap.size ((w.alloc (.cells #[.int .i64 N, .int .i64 W, .int .i64 R, .int .i64 K] 28)).alloc (.cells #[.int .i64 k, .int .i64 a, .int .i64 b, .int .i64 c, .int .u32 v] 31)) w') => (hC.cell (p := ⟨w.heap.size, 3, none⟩) (by simp; omega)).trans (show _ = some (.int .i64 K) by rw [World.cell?_alloc_past _ _ _ (by simp)]; go_simp)
  have c0 := fun w' (hC : Below ((w.alloc (.cells #[.int .i64 N, .int .i64 W, .int .i64 R, .int .i64 K] 28)).alloc (.cells #[.int .i64 k, .int .i64 a, .int .i64 b, .int .i64 c, .int .u32 v] 31)).heap.size ((w.alloc (.cells #[.int .i64 N, .int .i64 W, .int .i64 R, .int .i64 K] 28)).alloc (.cells #[.int .i64 k, .int .i64 a, .int .i64 b, .int .i64 c, .int .u32 v] 31)) w') => (hC.cell (p := ⟨w.heap.size + 1, 0, none⟩) (by simp)).trans (show _ = some (.int .i64 k) by go_simp)
  have c1 := fun w' (hC : Below ((w.alloc (.cells #[.int .i64 N, .int .i64 W, .int .i64 R, .int .i64 K] 28)).alloc (.cells #[.int .i64 k, .int .i64 a, .int .i64 b, .int .i64 c, .int .u32 v] 31)).heap.size ((w.alloc (.cells #[.int .i64 N, .int .i64 W, .int .i64 R, .int .i64 K] 28)).alloc (.cells #[.int .i64 k, .int .i64 a, .int .i64 b, .int .i64 c, .int .u32 v] 31)) w') => (hC.cell (p := ⟨w.heap.size + 1, 1, none⟩) (by simp)).trans (show _ = some (.int .i64 a) by go_simp)
  have c2 := fun w' (hC : Below ((w.alloc (.cells #[.int .i64 N, .int .i64 W, .int .i64 R, .int .i64 K] 28)).alloc (.cells #[.int .i64 k, .int .i64 a, .int .i64 b, .int .i64 c, .int .u32 v] 31)).heap.size ((w.alloc (.cells #[.int .i64 N, .int .i64 W, .int .i64 R, .int .i64 K] 28)).alloc (.cells #[.int .i64 k, .int .i64 a, .int .i64 b, .int .i64 c, .int .u32 v] 31)) w') => (hC.cell (p := ⟨w.heap.size + 1, 2, none⟩) (by simp)).trans (show _ = some (.int .i64 b) by go_simp)
  have c3 := fun w' (hC : Below ((w.alloc (.cells #[.int .i64 N, .int .i64 W, .int .i64 R, .int .i64 K] 28)).alloc (.cells #[.int .i64 k, .int .i64 a, .int .i64 b, .int .i64 c, .int .u32 v] 31)).heap.size ((w.alloc (.cells #[.int .i64 N, .int .i64 W, .int .i64 R, .int .i64 K] 28)).alloc (.cells #[.int .i64 k, .int .i64 a, .int .i64 b, .int .i64 c, .int .u32 v] 31)) w') => (hC.cell (p := ⟨w.heap.size + 1, 3, none⟩) (by simp)).trans (show _ = some (.int .i64 c) by go_simp)
  have c4 := fun w' (hC : Below ((w.alloc (.cells #[.int .i64 N, .int .i64 W, .int .i64 R, .int .i64 K] 28)).alloc (.cells #[.int .i64 k, .int .i64 a, .int .i64 b, .int .i64 c, .int .u32 v] 31)).heap.size ((w.alloc (.cells #[.int .i64 N, .int .i64 W, .int .i64 R, .int .i64 K] 28)).alloc (.cells #[.int .i64 k, .int .i64 a, .int .i64 b, .int .i64 c, .int .u32 v] 31)) w') => (hC.cell (p := ⟨w.heap.size + 1, 4, none⟩) (by simp)).trans (show _ = some (.int .u32 v) by go_simp)
  refine wp_region_tame_all [Fact.is (.bool true), Fact.is (.bool true), Fact.is (opV k a b c v), Fact.is (.bool (plainB k a b c v)), Fact.is (opV k a b c v), Fact.is (.bool (plainB k a b c v)), Fact.is (.bool true), Fact.is (.bool true), Fact.is (.bool true), Fact.is (opV k a b c v), Fact.is (bareOp k a b c v), Fact.is (opV k a b c v), Fact.is (bareOp k a b c v), Fact.is (.bool true), Fact.is (.bool true), Fact.is (.bool true), Fact.is (opV k a b c v), Fact.row .i64 (slotsL k a b c), Fact.is (opV k a b c v), Fact.row .i64 (slotsL k a b c), Fact.is (.bool true), Fact.is (.bool true), Fact.is (.bool true), Fact.is (.agg #[.int .i64 N, .int .i64 W, .int .i64 R, .int .i64 K]), Fact.is (opV k a b c v), Fact.is (.int .i64 (needsV W k b c)), Fact.is (.agg #[.int .i64 N, .int .i64 W, .int .i64 R, .int .i64 K]), Fact.is (opV k a b c v), Fact.is (.int .i64 (needsV W k b c)), Fact.is (.bool true), Fact.is (.bool true), Fact.is (.bool true)] (by kernel_rfl) (by kernel_rfl) rfl (by kernel_rfl) (fun ops K2 hops hK => ?_)
  refine walkT_is (wantedN rfl) (fun w' hC hd => tame_0   (fun ρ hρ hf  => upon_call_below (f := 11) (by go_simp) (begun22_any w' (HN.out w' hC)))) (by go_frame; rfl) (by simp only [List.nil_append, List.cons_append]; rfl) ?_
  refine walkT_is (wantedN rfl) (fun w' hC hd => tame_move _ (.inl rfl) rfl) (by go_frame; rfl) (by simp only [List.nil_append, List.cons_append]; rfl) ?_
  refine walkT_is (wantedT hops rfl rfl rfl rfl) (fun w' hC hd => tame_1 3 (.pointer (some ⟨(w.heap.size + 1), 0, none⟩)) rfl (fun ρ hρ hf e0 => upon_is (by have hc0 := c0 w' hC; have hc1 := c1 w' hC; have hc2 := c2 w' hC; have hc3 := c3 w' hC; have hc4 := c4 w' hC; go_simp))) (by go_frame; rfl) (by simp only [List.nil_append, List.cons_append]; rfl) ?_
  refine walkT_is (wantedT hops rfl rfl rfl rfl) (fun w' hC hd => tame_1 7 (opV k a b c v) rfl (fun ρ hρ hf e0 => upon_call_below (f := 13) (by go_simp) (oPlain_any k a b c v w'))) (by go_frame; rfl) (by simp only [List.nil_append, List.cons_append]; rfl) ?_
  refine walkT_is (wantedT hops rfl rfl rfl rfl) (fun w' hC hd => tame_1 3 (.pointer (some ⟨(w.heap.size + 1), 0, none⟩)) rfl (fun ρ hρ hf e0 => upon_is (by have hc0 := c0 w' hC; have hc1 := c1 w' hC; have hc2 := c2 w' hC; have hc3 := c3 w' hC; have hc4 := c4 w' hC; go_simp))) (by go_frame; rfl) (by simp only [List.nil_append, List.cons_append]; rfl) ?_
  refine walkT_is (wantedT hops rfl rfl rfl rfl) (fun w' hC hd => tame_1 9 (opV k a b c v) rfl (fun ρ hρ hf e0 => upon_call_below (f := 14) (by go_simp) (rPlain_any k a b c v w'))) (by go_frame; rfl) (by simp only [List.nil_append, List.cons_append]; rfl) ?_
  refine walkT_is (wantedT hops rfl rfl rfl rfl) (fun w' hC hd => tame_2 8 (.bool (plainB k a b c v)) 10 (.bool (plainB k a b c v)) rfl rfl (fun ρ hρ hf e0 e1 => upon_is (by go_simp))) (by go_frame; rfl) (by simp only [List.nil_append, List.cons_append]; rfl) ?_
  refine walkT_is (wantedN rfl) (fun w' hC hd => tame_pick _ _ _ true rfl rfl rfl) (by go_frame; rfl) (by simp only [List.nil_append, List.cons_append]; rfl) ?_
  refine walkT_is (wantedN rfl) (fun w' hC hd => tame_move _ (.inl rfl) rfl) (by go_frame; rfl) (by simp only [List.nil_append, List.cons_append]; rfl) ?_
  refine walkT_is (wantedT hops rfl rfl rfl rfl) (fun w' hC hd => tame_1 3 (.pointer (some ⟨(w.heap.size + 1), 0, none⟩)) rfl (fun ρ hρ hf e0 => upon_is (by have hc0 := c0 w' hC; have hc1 := c1 w' hC; have hc2 := c2 w' hC; have hc3 := c3 w' hC; have hc4 := c4 w' hC; go_simp))) (by go_frame; rfl) (by simp only [List.nil_append, List.cons_append]; rfl) ?_
  refine walkT_is (wantedT hops rfl rfl rfl rfl) (fun w' hC hd => tame_1 14 (opV k a b c v) rfl (fun ρ hρ hf e0 => upon_call_below (f := 15) (by go_simp) (oBare_any k a b c v w'))) (by go_frame; rfl) (by simp only [List.nil_append, List.cons_append]; rfl) ?_
  refine walkT_is (wantedT hops rfl rfl rfl rfl) (fun w' hC hd => tame_1 3 (.pointer (some ⟨(w.heap.size + 1), 0, none⟩)) rfl (fun ρ hρ hf e0 => upon_is (by have hc0 := c0 w' hC; have hc1 := c1 w' hC; have hc2 := c2 w' hC; have hc3 := c3 w' hC; have hc4 := c4 w' hC; go_simp))) (by go_frame; rfl) (by simp only [List.nil_append, List.cons_append]; rfl) ?_
  refine walkT_is (wantedT hops rfl rfl rfl rfl) (fun w' hC hd => tame_1 16 (opV k a b c v) rfl (fun ρ hρ hf e0 => upon_call_below (f := 16) (by go_simp) (rBare_any k a b c v w'))) (by go_frame; rfl) (by simp only [List.nil_append, List.cons_append]; rfl) ?_
  refine walkT_is (wantedT hops rfl rfl rfl rfl) (fun w' hC hd => tame_2 15 (bareOp k a b c v) 17 (bareOp k a b c v) rfl rfl (fun ρ hρ hf e0 e1 => upon_is (by go_simp))) (by go_frame; rfl) (by simp only [List.nil_append, List.cons_append]; rfl) ?_
  refine walkT_is (wantedN rfl) (fun w' hC hd => tame_pick _ _ _ true rfl rfl rfl) (by go_frame; rfl) (by simp only [List.nil_append, List.cons_append]; rfl) ?_
  refine walkT_is (wantedN rfl) (fun w' hC hd => tame_move _ (.inl rfl) rfl) (by go_frame; rfl) (by simp only [List.nil_append, List.cons_append]; rfl) ?_
  refine walkT_is (wantedT hops rfl rfl rfl rfl) (fun w' hC hd => tame_1 3 (.pointer (some ⟨(w.heap.size + 1), 0, none⟩)) rfl (fun ρ hρ hf e0 => upon_is (by have hc0 := c0 w' hC; have hc1 := c1 w' hC; have hc2 := c2 w' hC; have hc3 := c3 w' hC; have hc4 := c4 w' hC; go_simp))) (by go_frame; rfl) (by simp only [List.nil_append, List.cons_append]; rfl) ?_
  refine walkT_row (wantedT hops rfl rfl rfl rfl) (n := (slotsL k a b c).length) rfl (fun w' hC hd => tame_1 21 (opV k a b c v) rfl (fun ρ hρ hf e0 => upon_row_call (f := 18) (by go_simp) (oSlots_any k a b c v w'))) (fun ad cap => (by go_frame; rfl)) (fun ad => (by simp only [List.nil_append, List.cons_append]; rfl)) (fun ad17 cap17 => ?_)
  refine walkT_is (wantedT hops rfl rfl rfl rfl) (fun w' hC hd => tame_1 3 (.pointer (some ⟨(w.heap.size + 1), 0, none⟩)) rfl (fun ρ hρ hf e0 => upon_is (by have hc0 := c0 w' hC; have hc1 := c1 w' hC; have hc2 := c2 w' hC; have hc3 := c3 w' hC; have hc4 := c4 w' hC; go_simp))) (by go_frame; rfl) (by simp only [List.nil_append, List.cons_append]; rfl) ?_
  refine walkT_row (wantedT hops rfl rfl rfl rfl) (n := (slotsL k a b c).length) rfl (fun w' hC hd => tame_1 23 (opV k a b c v) rfl (fun ρ hρ hf e0 => upon_row_call (f := 19) (by go_simp) (rSlots_any k a b c v w'))) (fun ad cap => (by go_frame; rfl)) (fun ad => (by simp only [List.nil_append, List.cons_append]; rfl)) (fun ad19 cap19 => ?_)
  refine walkT_is (wantedT hops rfl rfl rfl rfl) (fun w' hC hd => ?_) (by go_frame; rfl) (by simp only [List.nil_append, List.cons_append]; rfl) ?_
  · have hr1 : Row w' .i64 ad17 (slotsL k a b c) := hd 17 (by kernel_rfl)
    have hr2 : Row w' .i64 ad19 (slotsL k a b c) := hd 19 (by kernel_rfl)
    exact tame_2 22 (.slice ad17 (slotsL k a b c).length cap17) 24 (.slice ad19 (slotsL k a b c).length cap19) rfl rfl (fun ρ hρ hf e0 e1 => upon_call_below (f := 17) (by go_simp) ((rcInts_same ad17 ad19 cap17 cap19 (slotsL k a b c) _ hr1 hr2 hsl).mono (fun _ _ h => ⟨h.1, h.2.new⟩)))
  refine walkT_is (wantedN rfl) (fun w' hC hd => tame_pick _ _ _ true rfl rfl rfl) (by go_frame; rfl) (by simp only [List.nil_append, List.cons_append]; rfl) ?_
  refine walkT_is (wantedN rfl) (fun w' hC hd => tame_move _ (.inl rfl) rfl) (by go_frame; rfl) (by simp only [List.nil_append, List.cons_append]; rfl) ?_
  refine walkT_is (wantedT hops rfl rfl rfl rfl) (fun w' hC hd => tame_1 2 (.pointer (some ⟨w.heap.size, 0, none⟩)) rfl (fun ρ hρ hf e0 => upon_is (by have hc0 := d0 w' hC; have hc1 := d1 w' hC; have hc2 := d2 w' hC; have hc3 := d3 w' hC; go_simp))) (by go_frame; rfl) (by simp only [List.nil_append, List.cons_append]; rfl) ?_
  refine walkT_is (wantedT hops rfl rfl rfl rfl) (fun w' hC hd => tame_1 3 (.pointer (some ⟨(w.heap.size + 1), 0, none⟩)) rfl (fun ρ hρ hf e0 => upon_is (by have hc0 := c0 w' hC; have hc1 := c1 w' hC; have hc2 := c2 w' hC; have hc3 := c3 w' hC; have hc4 := c4 w' hC; go_simp))) (by go_frame; rfl) (by simp only [List.nil_append, List.cons_append]; rfl) ?_
  refine walkT_is (wantedT hops rfl rfl rfl rfl) (fun w' hC hd => tame_2 28 (.agg #[.int .i64 N, .int .i64 W, .int .i64 R, .int .i64 K]) 29 (opV k a b c v) rfl rfl (fun ρ hρ hf e0 e1 => upon_call_below (f := 20) (by go_simp) (oNeeds_any N W R K k a b c v w'))) (by go_frame; rfl) (by simp only [List.nil_append, List.cons_append]; rfl) ?_
  refine walkT_is (wantedT hops rfl rfl rfl rfl) (fun w' hC hd => tame_1 2 (.pointer (some ⟨w.heap.size, 0, none⟩)) rfl (fun ρ hρ hf e0 => upon_is (by have hc0 := d0 w' hC; have hc1 := d1 w' hC; have hc2 := d2 w' hC; have hc3 := d3 w' hC; go_simp))) (by go_frame; rfl) (by simp only [List.nil_append, List.cons_append]; rfl) ?_
  refine walkT_is (wantedT hops rfl rfl rfl rfl) (fun w' hC hd => tame_1 3 (.pointer (some ⟨(w.heap.size + 1), 0, none⟩)) rfl (fun ρ hρ hf e0 => upon_is (by have hc0 := c0 w' hC; have hc1 := c1 w' hC; have hc2 := c2 w' hC; have hc3 := c3 w' hC; have hc4 := c4 w' hC; go_simp))) (by go_frame; rfl) (by simp only [List.nil_append, List.cons_append]; rfl) ?_
  refine walkT_is (wantedT hops rfl rfl rfl rfl) (fun w' hC hd => tame_2 31 (.agg #[.int .i64 N, .int .i64 W, .int .i64 R, .int .i64 K]) 32 (opV k a b c v) rfl rfl (fun ρ hρ hf e0 e1 => upon_call_below (f := 21) (by go_simp) (rNeeds_any N W R K k a b c v w'))) (by go_frame; rfl) (by simp only [List.nil_append, List.cons_append]; rfl) ?_
  refine walkT_is (wantedT hops rfl rfl rfl rfl) (fun w' hC hd => tame_2 30 (.int .i64 (needsV W k b c)) 33 (.int .i64 (needsV W k b c)) rfl rfl (fun ρ hρ hf e0 e1 => upon_is (by go_simp))) (by go_frame; rfl) (by simp only [List.nil_append, List.cons_append]; rfl) ?_
  refine walkT_is (wantedN rfl) (fun w' hC hd => tame_pick _ _ _ true rfl rfl rfl) (by go_frame; rfl) (by simp only [List.nil_append, List.cons_append]; rfl) ?_
  refine walkT_is (wantedN rfl) (fun w' hC hd => tame_move _ (.inr rfl) rfl) (by go_frame; rfl) (by simp only [List.nil_append, List.cons_append]; rfl) ?_
  refine walkT_nil fun w6 hC6 _ => hK _ _ ?_
  have HB6 := Lib.hid ((((Below.refl w.heap.size w).alloc (by simp) _).alloc (by simp) _).trans (hC6.mono (by simp; omega)))
  clear c0 c1 c2 c3 c4 d0 d1 d2 d3 hC6
  go_wp2_with fail
  go_ret
  exact ⟨rfl, HB6.out⟩

/-! ### The row -/
set_option maxRecDepth 100000 in
theorem lifted (os : Os) (started : os.Started) (H : Type) (enc : TypeId × Value → H) :
    ReturnsInHanded {} Tryd.checked os 4 .any (fun w args => (Rows.opTellsSpec.pre enc Tryd.prog Tryd.f4 [] false w args ∧ laidMetH Tryd.prog [("quitrent/op.names", Rows.laid_quitrent_op_names)] w) ∧ sizedMet enc Tryd.prog Tryd.f4 (OpenSpec.ofChange Rows.opTellsSpec) false w args)
      (Rows.opTellsSpec.post enc Tryd.prog Tryd.f4 false true false false) := by
  refine returnsInHanded_of_change_and (C := Tryd.checked) (X := fun w _ => laidMetH Tryd.prog [("quitrent/op.names", Rows.laid_quitrent_op_names)] w) (fun _ _ _ hh h => h.of_heap hh) own started (by kernel_rfl) Tryd.func4
    (ChangeSpec.witness_shaped (enc := enc) (C := Tryd.checked) (os := os) (X := fun w _ => laidMetH Tryd.prog [("quitrent/op.names", Rows.laid_quitrent_op_names)] w) false (World.doorLaid Tryd.prog 400 os) #[.agg #[.int .i64 0, .int .i64 0, .int .i64 0, .int .i64 0], .agg #[.int .i64 0, .int .i64 0, .int .i64 0, .int .i64 0, .int .u32 0]] 8 rfl (World.shaped_of_RefB (by kernel_rfl) (by kernel_rfl)) (by kernel_rfl) (by kernel_rfl) (by kernel_rfl) (names_door os _)) ?_
  intro W base args ds gs before hval0 hW _ _ hL _
  have hN := names_of_laid hL
  have hval : ∀ (j : Nat) t v, Tryd.f4.params[j]? = some t → args[j]? = some v → Value.okWide Tryd.prog W .any base t v := hval0
  have hW' := hW
  obtain ⟨p, q, hA0, hV, rfl, hfz, hnd⟩ := hW
  have hA : DataW.TrodAll enc Tryd.prog W 0 (fun _ => true) true Tryd.f4.params.toList args.toList ds p := hA0
  rw [Tryd.params4] at hA hval
  obtain ⟨v0, vs0, d0, ds0, p0, q0, hargs, rfl, rfl, h0, r0⟩ := trodAll_cons hA
  obtain ⟨v1, vs1, d1, ds1, p1, q1, rfl, rfl, rfl, h1, r1⟩ := trodAll_cons r0
  obtain ⟨rfl, rfl, rfl⟩ := trodAll_nil r1
  obtain rfl : args = #[v0, v1] := by cases args; simp_all
  obtain ⟨rfl, rfl⟩ := trodVars_none hV
  have k0 := h0
  have lt0 : ∀ x ∈ p0, x.block < W.heap.size := by obtain ⟨m, hm⟩ := k0; exact DataW.trod_lt m _ _ _ hm
  obtain ⟨c00, c01, c02, c03, y00, y01, y02, y03, m0, rfl, hd0, hp0, hy00, hy01, hy02, hy03⟩ := open_agg4 Tryd.underlying28 (by kernel_rfl) (by kernel_rfl) (hval 0 28 v0 rfl rfl) h0
  obtain ⟨a00, e00, hdd00, w00⟩ := DataW.trod_int Tryd.underlying3 hy00
  obtain ⟨a01, e01, hdd01, w01⟩ := DataW.trod_int Tryd.underlying3 hy01
  obtain ⟨a02, e02, hdd02, w02⟩ := DataW.trod_int Tryd.underlying3 hy02
  obtain ⟨a03, e03, hdd03, w03⟩ := DataW.trod_int Tryd.underlying3 hy03
  simp at e00 e01 e02 e03
  subst e00 e01 e02 e03
  have k1 := h1
  have lt1 : ∀ x ∈ p1, x.block < W.heap.size := by obtain ⟨m, hm⟩ := k1; exact DataW.trod_lt m _ _ _ hm
  obtain ⟨rs1, hk1, rfl, hok1⟩ := open_flds Tryd.underlying31 (by kernel_rfl) (by kernel_rfl) [.int .i64, .int .i64, .int .i64, .int .i64, .int .u32] ⟨Tryd.underlying3, Tryd.underlying3, Tryd.underlying3, Tryd.underlying3, Tryd.underlying29, trivial⟩ (hval 1 31 v1 rfl rfl) h1
  obtain ⟨f10, rs1, rfl, g10, hk1⟩ := flds_cons hk1
  obtain ⟨f11, rs1, rfl, g11, hk1⟩ := flds_cons hk1
  obtain ⟨f12, rs1, rfl, g12, hk1⟩ := flds_cons hk1
  obtain ⟨f13, rs1, rfl, g13, hk1⟩ := flds_cons hk1
  obtain ⟨f14, rs1, rfl, g14, hk1⟩ := flds_cons hk1
  obtain rfl := flds_nil hk1
  obtain ⟨a10, rfl⟩ := fld_int g10
  obtain ⟨a11, rfl⟩ := fld_int g11
  obtain ⟨a12, rfl⟩ := fld_int g12
  obtain ⟨a13, rfl⟩ := fld_int g13
  obtain ⟨a14, rfl⟩ := fld_int g14
  have w10 : (Fld.int .i64 a10).ok W := hok1 _ (by simp)
  have w11 : (Fld.int .i64 a11).ok W := hok1 _ (by simp)
  have w12 : (Fld.int .i64 a12).ok W := hok1 _ (by simp)
  have w13 : (Fld.int .i64 a13).ok W := hok1 _ (by simp)
  have w14 : (Fld.int .u32 a14).ok W := hok1 _ (by simp)
  clear hA0 hval0
  refine (walk a00 a01 a02 a03 a10 a11 a12 a13 a14 W w00 w01 w02 w03 w10 w11 w12 w13 w14 hN).mono fun e W' ⟨he, bel⟩ => ?_
  subst he
  exact ⟨_, rfl, _, _, _, [], _, [], hW', trodAll_mk1 (shut_bool Tryd.underlying4 _), (trodAll_cons_mk (Below.trod laidOut (by kernel_rfl) (of_decide_eq_true (by kernel_rfl)) k0 bel lt0) (trodAll_cons_mk (Below.trod laidOut (by kernel_rfl) (of_decide_eq_true (by kernel_rfl)) k1 bel lt1) trodAll_mk0)), rfl, bel.frame _, fun h => by cases h⟩

theorem over : Rows.opTellsRow.holds Tryd.pinned (OpenSpec.ofChange Rows.opTellsSpec) :=
  OpenClaim.holds_of_wide 4 Tryd.f4 rfl rfl rfl rfl rfl rfl rfl ⟨rfl, rfl, rfl, rfl, rfl⟩ rfl rfl rfl rfl rfl (by kernel_rfl) Tryd.func4 (by kernel_rfl)
    (of_decide_eq_true (by kernel_rfl)) (by unfold Func.isWrapper; first | (rw [if_pos (by decide +kernel)]; kernel_rfl) | (rw [if_neg (by decide +kernel)]; exact ⟨rfl, rfl⟩))
    (fun os started H enc _ => lifted os started H enc)

theorem proved : Rows.OpTellsCardSaid :=
  Claim7.holds_tied_plain_at .later [] [.data] true Rows.opTellsCard.stood.harness false
    over (fun _ h => by cases h) (by kernel_rfl) (fun _ h => by cases h) opTells_row_tie rfl ⟨rfl, rfl⟩ (by kernel_rfl) rfl
    (fun f fn hf hfn => by
      obtain rfl : f = 4 := Option.some.inj ((show Tryd.prog.funcNamed "quitrent/quitrentlaw22.OpTells" = some 4 by kernel_rfl).symm.trans hf) |>.symm
      obtain rfl : fn = Tryd.f4 := (Option.some.inj (Tryd.func4.symm.trans hfn)).symm
      exact ⟨by kernel_rfl, fun j t ht => by
        rw [Tryd.params4] at ht
        have hm : t ∈ [28, 31] := by simpa using Array.mem_of_getElem? ht
        have hall : ([28, 31].all fun u => !Tryd.prog.wantsStandIn u) = true := by kernel_rfl
        exact (show Tryd.prog.wantsStandIn t = false by simpa using List.all_eq_true.1 hall t hm)⟩)
    (by kernel_rfl)
#print axioms proved
end Go.Proofs.YtlgkgijgnmancaaDoor.opTells
