/-
  Texts laid together: OpPlain, OpLaw.
-/
import Derived.Test.YtlgkgijgnmancaaDoorOpFn
/-
  Package op: Plain, and the document's. (tools/mk_OpPlain.py writes this text.)
-/
namespace Go.Proofs.YtlgkgijgnmancaaDoor.Pk
open Go.RowKit
set_option linter.unusedVariables false
set_option linter.unusedSimpArgs false
set_option maxRecDepth 100000

/-- Does it bear nothing that its kind doesn't need? -/
def plainB (k a b c v : Int) : Bool := opK k && decide (a = bareA k a ∧ b = bareB k b ∧ c = bareC k c ∧ v = bareV k v)
set_option maxHeartbeats 1000000 in
theorem oPlain_0 (k a b c v a' b' c' v' : Int) (w : World) (HK : ∀ w', Calls Tryd.prog 41 #[.int .i64 k] w' fun e w'' => e = .returned (.bool true) ∧ w' = w'') (HB : ∀ w', Calls Tryd.prog 15 #[opV k a b c v] w' fun e w'' => e = .returned (opV k a b c v) ∧ Below w'.heap.size w' w'') : Calls Tryd.prog 13 #[opV k a b c v] w fun e w' => e = .returned (.bool true) ∧ Below w.heap.size w w' := by
  go_enter Tryd.func13, Tryd.ntmps13
  go_wp2_with fail
  have c0 := fun w' (hC : Below (w.alloc (.cells #[.int .i64 k, .int .i64 a, .int .i64 b, .int .i64 c, .int .u32 v] 31)).heap.size (w.alloc (.cells #[.int .i64 k, .int .i64 a, .int .i64 b, .int .i64 c, .int .u32 v] 31)) w') => (hC.cell (p := ⟨w.heap.size, 0, none⟩) (by simp)).trans (show _ = some (.int .i64 k) by go_simp)
  have c1 := fun w' (hC : Below (w.alloc (.cells #[.int .i64 k, .int .i64 a, .int .i64 b, .int .i64 c, .int .u32 v] 31)).heap.size (w.alloc (.cells #[.int .i64 k, .int .i64 a, .int .i64 b, .int .i64 c, .int .u32 v] 31)) w') => (hC.cell (p := ⟨w.heap.size, 1, none⟩) (by simp)).trans (show _ = some (.int .i64 a) by go_simp)
  have c2 := fun w' (hC : Below (w.alloc (.cells #[.int .i64 k, .int .i64 a, .int .i64 b, .int .i64 c, .int .u32 v] 31)).heap.size (w.alloc (.cells #[.int .i64 k, .int .i64 a, .int .i64 b, .int .i64 c, .int .u32 v] 31)) w') => (hC.cell (p := ⟨w.heap.size, 2, none⟩) (by simp)).trans (show _ = some (.int .i64 b) by go_simp)
  have c3 := fun w' (hC : Below (w.alloc (.cells #[.int .i64 k, .int .i64 a, .int .i64 b, .int .i64 c, .int .u32 v] 31)).heap.size (w.alloc (.cells #[.int .i64 k, .int .i64 a, .int .i64 b, .int .i64 c, .int .u32 v] 31)) w') => (hC.cell (p := ⟨w.heap.size, 3, none⟩) (by simp)).trans (show _ = some (.int .i64 c) by go_simp)
  have c4 := fun w' (hC : Below (w.alloc (.cells #[.int .i64 k, .int .i64 a, .int .i64 b, .int .i64 c, .int .u32 v] 31)).heap.size (w.alloc (.cells #[.int .i64 k, .int .i64 a, .int .i64 b, .int .i64 c, .int .u32 v] 31)) w') => (hC.cell (p := ⟨w.heap.size, 4, none⟩) (by simp)).trans (show _ = some (.int .u32 v) by go_simp)
  refine wp_region_tame_all [Fact.is (.pointer (some ⟨w.heap.size, 0, none⟩)), Fact.is (.int .i64 k), Fact.is (.bool true), Fact.is (.bool true), Fact.is (opV k a b c v), Fact.is (opV k a b c v), Fact.is (opV k a b c v), Fact.is (.bool true), Fact.is (.bool true), Fact.is (.bool true)] (by kernel_rfl) (by kernel_rfl) rfl (by kernel_rfl) (fun ops K2 hops hK => ?_)
  refine walkT_is (wantedN rfl) (fun w' hC hd => tame_1 1 (.pointer (some ⟨w.heap.size, 0, none⟩)) rfl (fun ρ hρ hf e0 => upon_is (by go_simp))) (by go_frame; rfl) (by simp only [List.nil_append, List.cons_append]; rfl) ?_
  refine walkT_is (wantedN rfl) (fun w' hC hd => tame_1 3 (.pointer (some ⟨w.heap.size, 0, none⟩)) rfl (fun ρ hρ hf e0 => upon_is (by have hc0 := c0 w' hC; go_simp))) (by go_frame; rfl) (by simp only [List.nil_append, List.cons_append]; rfl) ?_
  refine walkT_is (wantedN rfl) (fun w' hC hd => tame_1 4 (.int .i64 k) rfl (fun ρ hρ hf e0 => upon_call (f := 41) (by go_simp) (HK w'))) (by go_frame; rfl) (by simp only [List.nil_append, List.cons_append]; rfl) ?_
  refine walkT_is (wantedN rfl) (fun w' hC hd => tame_move _ (.inl rfl) rfl) (by go_frame; rfl) (by simp only [List.nil_append, List.cons_append]; rfl) ?_
  refine walkT_is (wantedT hops rfl rfl rfl rfl) (fun w' hC hd => tame_1 1 (.pointer (some ⟨w.heap.size, 0, none⟩)) rfl (fun ρ hρ hf e0 => upon_is (by have hc0 := c0 w' hC; have hc1 := c1 w' hC; have hc2 := c2 w' hC; have hc3 := c3 w' hC; have hc4 := c4 w' hC; go_simp))) (by go_frame; rfl) (by simp only [List.nil_append, List.cons_append]; rfl) ?_
  refine walkT_is (wantedT hops rfl rfl rfl rfl) (fun w' hC hd => tame_1 1 (.pointer (some ⟨w.heap.size, 0, none⟩)) rfl (fun ρ hρ hf e0 => upon_is (by have hc0 := c0 w' hC; have hc1 := c1 w' hC; have hc2 := c2 w' hC; have hc3 := c3 w' hC; have hc4 := c4 w' hC; go_simp))) (by go_frame; rfl) (by simp only [List.nil_append, List.cons_append]; rfl) ?_
  refine walkT_is (wantedT hops rfl rfl rfl rfl) (fun w' hC hd => tame_1 8 (opV k a b c v) rfl (fun ρ hρ hf e0 => upon_call_below (f := 15) (by go_simp) (HB w'))) (by go_frame; rfl) (by simp only [List.nil_append, List.cons_append]; rfl) ?_
  refine walkT_is (wantedT hops rfl rfl rfl rfl) (fun w' hC hd => tame_2 7 (opV k a b c v) 9 (opV k a b c v) rfl rfl (fun ρ hρ hf e0 e1 => upon_is (by go_simp))) (by go_frame; rfl) (by simp only [List.nil_append, List.cons_append]; rfl) ?_
  refine walkT_is (wantedN rfl) (fun w' hC hd => tame_pick _ _ _ true rfl rfl rfl) (by go_frame; rfl) (by simp only [List.nil_append, List.cons_append]; rfl) ?_
  refine walkT_is (wantedN rfl) (fun w' hC hd => tame_move _ (.inr rfl) rfl) (by go_frame; rfl) (by simp only [List.nil_append, List.cons_append]; rfl) ?_
  refine walkT_nil fun w6 hC6 _ => hK _ _ ?_
  have HB6 := Lib.hid (((Below.refl w.heap.size w).alloc (Nat.le_refl _) _).trans (hC6.mono (by simp)))
  clear c0 c1 c2 c3 c4 hC6
  go_wp2_with fail
  go_ret
  exact ⟨rfl, HB6.out⟩
set_option maxHeartbeats 1000000 in
theorem oPlain_1 (k a b c v a' b' c' v' : Int) (w : World) (HK : ∀ w', Calls Tryd.prog 41 #[.int .i64 k] w' fun e w'' => e = .returned (.bool true) ∧ w' = w'') (hne : (a == a') = false) (hne2 : (a' == a) = false) (hn3 : ¬ a = a') (hn4 : ¬ a' = a) (HB : ∀ w', Calls Tryd.prog 15 #[opV k a b c v] w' fun e w'' => e = .returned (opV k a' b' c' v') ∧ Below w'.heap.size w' w'') : Calls Tryd.prog 13 #[opV k a b c v] w fun e w' => e = .returned (.bool false) ∧ Below w.heap.size w w' := by
  go_enter Tryd.func13, Tryd.ntmps13
  go_wp2_with fail
  have c0 := fun w' (hC : Below (w.alloc (.cells #[.int .i64 k, .int .i64 a, .int .i64 b, .int .i64 c, .int .u32 v] 31)).heap.size (w.alloc (.cells #[.int .i64 k, .int .i64 a, .int .i64 b, .int .i64 c, .int .u32 v] 31)) w') => (hC.cell (p := ⟨w.heap.size, 0, none⟩) (by simp)).trans (show _ = some (.int .i64 k) by go_simp)
  have c1 := fun w' (hC : Below (w.alloc (.cells #[.int .i64 k, .int .i64 a, .int .i64 b, .int .i64 c, .int .u32 v] 31)).heap.size (w.alloc (.cells #[.int .i64 k, .int .i64 a, .int .i64 b, .int .i64 c, .int .u32 v] 31)) w') => (hC.cell (p := ⟨w.heap.size, 1, none⟩) (by simp)).trans (show _ = some (.int .i64 a) by go_simp)
  have c2 := fun w' (hC : Below (w.alloc (.cells #[.int .i64 k, .int .i64 a, .int .i64 b, .int .i64 c, .int .u32 v] 31)).heap.size (w.alloc (.cells #[.int .i64 k, .int .i64 a, .int .i64 b, .int .i64 c, .int .u32 v] 31)) w') => (hC.cell (p := ⟨w.heap.size, 2, none⟩) (by simp)).trans (show _ = some (.int .i64 b) by go_simp)
  have c3 := fun w' (hC : Below (w.alloc (.cells #[.int .i64 k, .int .i64 a, .int .i64 b, .int .i64 c, .int .u32 v] 31)).heap.size (w.alloc (.cells #[.int .i64 k, .int .i64 a, .int .i64 b, .int .i64 c, .int .u32 v] 31)) w') => (hC.cell (p := ⟨w.heap.size, 3, none⟩) (by simp)).trans (show _ = some (.int .i64 c) by go_simp)
  have c4 := fun w' (hC : Below (w.alloc (.cells #[.int .i64 k, .int .i64 a, .int .i64 b, .int .i64 c, .int .u32 v] 31)).heap.size (w.alloc (.cells #[.int .i64 k, .int .i64 a, .int .i64 b, .int .i64 c, .int .u32 v] 31)) w') => (hC.cell (p := ⟨w.heap.size, 4, none⟩) (by simp)).trans (show _ = some (.int .u32 v) by go_simp)
  refine wp_region_tame_all [Fact.is (.pointer (some ⟨w.heap.size, 0, none⟩)), Fact.is (.int .i64 k), Fact.is (.bool true), Fact.is (.bool true), Fact.is (opV k a b c v), Fact.is (opV k a b c v), Fact.is (opV k a' b' c' v'), Fact.is (.bool false), Fact.is (.bool false), Fact.is (.bool false)] (by kernel_rfl) (by kernel_rfl) rfl (by kernel_rfl) (fun ops K2 hops hK => ?_)
  refine walkT_is (wantedN rfl) (fun w' hC hd => tame_1 1 (.pointer (some ⟨w.heap.size, 0, none⟩)) rfl (fun ρ hρ hf e0 => upon_is (by go_simp))) (by go_frame; rfl) (by simp only [List.nil_append, List.cons_append]; rfl) ?_
  refine walkT_is (wantedN rfl) (fun w' hC hd => tame_1 3 (.pointer (some ⟨w.heap.size, 0, none⟩)) rfl (fun ρ hρ hf e0 => upon_is (by have hc0 := c0 w' hC; go_simp))) (by go_frame; rfl) (by simp only [List.nil_append, List.cons_append]; rfl) ?_
  refine walkT_is (wantedN rfl) (fun w' hC hd => tame_1 4 (.int .i64 k) rfl (fun ρ hρ hf e0 => upon_call (f := 41) (by go_simp) (HK w'))) (by go_frame; rfl) (by simp only [List.nil_append, List.cons_append]; rfl) ?_
  refine walkT_is (wantedN rfl) (fun w' hC hd => tame_move _ (.inl rfl) rfl) (by go_frame; rfl) (by simp only [List.nil_append, List.cons_append]; rfl) ?_
  refine walkT_is (wantedT hops rfl rfl rfl rfl) (fun w' hC hd => tame_1 1 (.pointer (some ⟨w.heap.size, 0, none⟩)) rfl (fun ρ hρ hf e0 => upon_is (by have hc0 := c0 w' hC; have hc1 := c1 w' hC; have hc2 := c2 w' hC; have hc3 := c3 w' hC; have hc4 := c4 w' hC; go_simp))) (by go_frame; rfl) (by simp only [List.nil_append, List.cons_append]; rfl) ?_
  refine walkT_is (wantedT hops rfl rfl rfl rfl) (fun w' hC hd => tame_1 1 (.pointer (some ⟨w.heap.size, 0, none⟩)) rfl (fun ρ hρ hf e0 => upon_is (by have hc0 := c0 w' hC; have hc1 := c1 w' hC; have hc2 := c2 w' hC; have hc3 := c3 w' hC; have hc4 := c4 w' hC; go_simp))) (by go_frame; rfl) (by simp only [List.nil_append, List.cons_append]; rfl) ?_
  refine walkT_is (wantedT hops rfl rfl rfl rfl) (fun w' hC hd => tame_1 8 (opV k a b c v) rfl (fun ρ hρ hf e0 => upon_call_below (f := 15) (by go_simp) (HB w'))) (by go_frame; rfl) (by simp only [List.nil_append, List.cons_append]; rfl) ?_
  refine walkT_is (wantedT hops rfl rfl rfl rfl) (fun w' hC hd => tame_2 7 (opV k a b c v) 9 (opV k a' b' c' v') rfl rfl (fun ρ hρ hf e0 e1 => upon_is (by have hb0 := hne; have hb1 := hne2; have hb2 := hn3; have hb3 := hn4; go_simp))) (by go_frame; rfl) (by simp only [List.nil_append, List.cons_append]; rfl) ?_
  refine walkT_is (wantedN rfl) (fun w' hC hd => tame_pick _ _ _ true rfl rfl rfl) (by go_frame; rfl) (by simp only [List.nil_append, List.cons_append]; rfl) ?_
  refine walkT_is (wantedN rfl) (fun w' hC hd => tame_move _ (.inr rfl) rfl) (by go_frame; rfl) (by simp only [List.nil_append, List.cons_append]; rfl) ?_
  refine walkT_nil fun w6 hC6 _ => hK _ _ ?_
  have HB6 := Lib.hid (((Below.refl w.heap.size w).alloc (Nat.le_refl _) _).trans (hC6.mono (by simp)))
  clear c0 c1 c2 c3 c4 hC6
  go_wp2_with fail
  go_ret
  exact ⟨rfl, HB6.out⟩
set_option maxHeartbeats 1000000 in
theorem oPlain_2 (k a b c v a' b' c' v' : Int) (w : World) (HK : ∀ w', Calls Tryd.prog 41 #[.int .i64 k] w' fun e w'' => e = .returned (.bool true) ∧ w' = w'') (hne : (b == b') = false) (hne2 : (b' == b) = false) (hn3 : ¬ b = b') (hn4 : ¬ b' = b) (HB : ∀ w', Calls Tryd.prog 15 #[opV k a b c v] w' fun e w'' => e = .returned (opV k a b' c' v') ∧ Below w'.heap.size w' w'') : Calls Tryd.prog 13 #[opV k a b c v] w fun e w' => e = .returned (.bool false) ∧ Below w.heap.size w w' := by
  go_enter Tryd.func13, Tryd.ntmps13
  go_wp2_with fail
  have c0 := fun w' (hC : Below (w.alloc (.cells #[.int .i64 k, .int .i64 a, .int .i64 b, .int .i64 c, .int .u32 v] 31)).heap.size (w.alloc (.cells #[.int .i64 k, .int .i64 a, .int .i64 b, .int .i64 c, .int .u32 v] 31)) w') => (hC.cell (p := ⟨w.heap.size, 0, none⟩) (by simp)).trans (show _ = some (.int .i64 k) by go_simp)
  have c1 := fun w' (hC : Below (w.alloc (.cells #[.int .i64 k, .int .i64 a, .int .i64 b, .int .i64 c, .int .u32 v] 31)).heap.size (w.alloc (.cells #[.int .i64 k, .int .i64 a, .int .i64 b, .int .i64 c, .int .u32 v] 31)) w') => (hC.cell (p := ⟨w.heap.size, 1, none⟩) (by simp)).trans (show _ = some (.int .i64 a) by go_simp)
  have c2 := fun w' (hC : Below (w.alloc (.cells #[.int .i64 k, .int .i64 a, .int .i64 b, .int .i64 c, .int .u32 v] 31)).heap.size (w.alloc (.cells #[.int .i64 k, .int .i64 a, .int .i64 b, .int .i64 c, .int .u32 v] 31)) w') => (hC.cell (p := ⟨w.heap.size, 2, none⟩) (by simp)).trans (show _ = some (.int .i64 b) by go_simp)
  have c3 := fun w' (hC : Below (w.alloc (.cells #[.int .i64 k, .int .i64 a, .int .i64 b, .int .i64 c, .int .u32 v] 31)).heap.size (w.alloc (.cells #[.int .i64 k, .int .i64 a, .int .i64 b, .int .i64 c, .int .u32 v] 31)) w') => (hC.cell (p := ⟨w.heap.size, 3, none⟩) (by simp)).trans (show _ = some (.int .i64 c) by go_simp)
  have c4 := fun w' (hC : Below (w.alloc (.cells #[.int .i64 k, .int .i64 a, .int .i64 b, .int .i64 c, .int .u32 v] 31)).heap.size (w.alloc (.cells #[.int .i64 k, .int .i64 a, .int .i64 b, .int .i64 c, .int .u32 v] 31)) w') => (hC.cell (p := ⟨w.heap.size, 4, none⟩) (by simp)).trans (show _ = some (.int .u32 v) by go_simp)
  refine wp_region_tame_all [Fact.is (.pointer (some ⟨w.heap.size, 0, none⟩)), Fact.is (.int .i64 k), Fact.is (.bool true), Fact.is (.bool true), Fact.is (opV k a b c v), Fact.is (opV k a b c v), Fact.is (opV k a b' c' v'), Fact.is (.bool false), Fact.is (.bool false), Fact.is (.bool false)] (by kernel_rfl) (by kernel_rfl) rfl (by kernel_rfl) (fun ops K2 hops hK => ?_)
  refine walkT_is (wantedN rfl) (fun w' hC hd => tame_1 1 (.pointer (some ⟨w.heap.size, 0, none⟩)) rfl (fun ρ hρ hf e0 => upon_is (by go_simp))) (by go_frame; rfl) (by simp only [List.nil_append, List.cons_append]; rfl) ?_
  refine walkT_is (wantedN rfl) (fun w' hC hd => tame_1 3 (.pointer (some ⟨w.heap.size, 0, none⟩)) rfl (fun ρ hρ hf e0 => upon_is (by have hc0 := c0 w' hC; go_simp))) (by go_frame; rfl) (by simp only [List.nil_append, List.cons_append]; rfl) ?_
  refine walkT_is (wantedN rfl) (fun w' hC hd => tame_1 4 (.int .i64 k) rfl (fun ρ hρ hf e0 => upon_call (f := 41) (by go_simp) (HK w'))) (by go_frame; rfl) (by simp only [List.nil_append, List.cons_append]; rfl) ?_
  refine walkT_is (wantedN rfl) (fun w' hC hd => tame_move _ (.inl rfl) rfl) (by go_frame; rfl) (by simp only [List.nil_append, List.cons_append]; rfl) ?_
  refine walkT_is (wantedT hops rfl rfl rfl rfl) (fun w' hC hd => tame_1 1 (.pointer (some ⟨w.heap.size, 0, none⟩)) rfl (fun ρ hρ hf e0 => upon_is (by have hc0 := c0 w' hC; have hc1 := c1 w' hC; have hc2 := c2 w' hC; have hc3 := c3 w' hC; have hc4 := c4 w' hC; go_simp))) (by go_frame; rfl) (by simp only [List.nil_append, List.cons_append]; rfl) ?_
  refine walkT_is (wantedT hops rfl rfl rfl rfl) (fun w' hC hd => tame_1 1 (.pointer (some ⟨w.heap.size, 0, none⟩)) rfl (fun ρ hρ hf e0 => upon_is (by have hc0 := c0 w' hC; have hc1 := c1 w' hC; have hc2 := c2 w' hC; have hc3 := c3 w' hC; have hc4 := c4 w' hC; go_simp))) (by go_frame; rfl) (by simp only [List.nil_append, List.cons_append]; rfl) ?_
  refine walkT_is (wantedT hops rfl rfl rfl rfl) (fun w' hC hd => tame_1 8 (opV k a b c v) rfl (fun ρ hρ hf e0 => upon_call_below (f := 15) (by go_simp) (HB w'))) (by go_frame; rfl) (by simp only [List.nil_append, List.cons_append]; rfl) ?_
  refine walkT_is (wantedT hops rfl rfl rfl rfl) (fun w' hC hd => tame_2 7 (opV k a b c v) 9 (opV k a b' c' v') rfl rfl (fun ρ hρ hf e0 e1 => upon_is (by have hb0 := hne; have hb1 := hne2; have hb2 := hn3; have hb3 := hn4; go_simp))) (by go_frame; rfl) (by simp only [List.nil_append, List.cons_append]; rfl) ?_
  refine walkT_is (wantedN rfl) (fun w' hC hd => tame_pick _ _ _ true rfl rfl rfl) (by go_frame; rfl) (by simp only [List.nil_append, List.cons_append]; rfl) ?_
  refine walkT_is (wantedN rfl) (fun w' hC hd => tame_move _ (.inr rfl) rfl) (by go_frame; rfl) (by simp only [List.nil_append, List.cons_append]; rfl) ?_
  refine walkT_nil fun w6 hC6 _ => hK _ _ ?_
  have HB6 := Lib.hid (((Below.refl w.heap.size w).alloc (Nat.le_refl _) _).trans (hC6.mono (by simp)))
  clear c0 c1 c2 c3 c4 hC6
  go_wp2_with fail
  go_ret
  exact ⟨rfl, HB6.out⟩
set_option maxHeartbeats 1000000 in
theorem oPlain_3 (k a b c v a' b' c' v' : Int) (w : World) (HK : ∀ w', Calls Tryd.prog 41 #[.int .i64 k] w' fun e w'' => e = .returned (.bool true) ∧ w' = w'') (hne : (c == c') = false) (hne2 : (c' == c) = false) (hn3 : ¬ c = c') (hn4 : ¬ c' = c) (HB : ∀ w', Calls Tryd.prog 15 #[opV k a b c v] w' fun e w'' => e = .returned (opV k a b c' v') ∧ Below w'.heap.size w' w'') : Calls Tryd.prog 13 #[opV k a b c v] w fun e w' => e = .returned (.bool false) ∧ Below w.heap.size w w' := by
  go_enter Tryd.func13, Tryd.ntmps13
  go_wp2_with fail
  have c0 := fun w' (hC : Below (w.alloc (.cells #[.int .i64 k, .int .i64 a, .int .i64 b, .int .i64 c, .int .u32 v] 31)).heap.size (w.alloc (.cells #[.int .i64 k, .int .i64 a, .int .i64 b, .int .i64 c, .int .u32 v] 31)) w') => (hC.cell (p := ⟨w.heap.size, 0, none⟩) (by simp)).trans (show _ = some (.int .i64 k) by go_simp)
  have c1 := fun w' (hC : Below (w.alloc (.cells #[.int .i64 k, .int .i64 a, .int .i64 b, .int .i64 c, .int .u32 v] 31)).heap.size (w.alloc (.cells #[.int .i64 k, .int .i64 a, .int .i64 b, .int .i64 c, .int .u32 v] 31)) w') => (hC.cell (p := ⟨w.heap.size, 1, none⟩) (by simp)).trans (show _ = some (.int .i64 a) by go_simp)
  have c2 := fun w' (hC : Below (w.alloc (.cells #[.int .i64 k, .int .i64 a, .int .i64 b, .int .i64 c, .int .u32 v] 31)).heap.size (w.alloc (.cells #[.int .i64 k, .int .i64 a, .int .i64 b, .int .i64 c, .int .u32 v] 31)) w') => (hC.cell (p := ⟨w.heap.size, 2, none⟩) (by simp)).trans (show _ = some (.int .i64 b) by go_simp)
  have c3 := fun w' (hC : Below (w.alloc (.cells #[.int .i64 k, .int .i64 a, .int .i64 b, .int .i64 c, .int .u32 v] 31)).heap.size (w.alloc (.cells #[.int .i64 k, .int .i64 a, .int .i64 b, .int .i64 c, .int .u32 v] 31)) w') => (hC.cell (p := ⟨w.heap.size, 3, none⟩) (by simp)).trans (show _ = some (.int .i64 c) by go_simp)
  have c4 := fun w' (hC : Below (w.alloc (.cells #[.int .i64 k, .int .i64 a, .int .i64 b, .int .i64 c, .int .u32 v] 31)).heap.size (w.alloc (.cells #[.int .i64 k, .int .i64 a, .int .i64 b, .int .i64 c, .int .u32 v] 31)) w') => (hC.cell (p := ⟨w.heap.size, 4, none⟩) (by simp)).trans (show _ = some (.int .u32 v) by go_simp)
  refine wp_region_tame_all [Fact.is (.pointer (some ⟨w.heap.size, 0, none⟩)), Fact.is (.int .i64 k), Fact.is (.bool true), Fact.is (.bool true), Fact.is (opV k a b c v), Fact.is (opV k a b c v), Fact.is (opV k a b c' v'), Fact.is (.bool false), Fact.is (.bool false), Fact.is (.bool false)] (by kernel_rfl) (by kernel_rfl) rfl (by kernel_rfl) (fun ops K2 hops hK => ?_)
  refine walkT_is (wantedN rfl) (fun w' hC hd => tame_1 1 (.pointer (some ⟨w.heap.size, 0, none⟩)) rfl (fun ρ hρ hf e0 => upon_is (by go_simp))) (by go_frame; rfl) (by simp only [List.nil_append, List.cons_append]; rfl) ?_
  refine walkT_is (wantedN rfl) (fun w' hC hd => tame_1 3 (.pointer (some ⟨w.heap.size, 0, none⟩)) rfl (fun ρ hρ hf e0 => upon_is (by have hc0 := c0 w' hC; go_simp))) (by go_frame; rfl) (by simp only [List.nil_append, List.cons_append]; rfl) ?_
  refine walkT_is (wantedN rfl) (fun w' hC hd => tame_1 4 (.int .i64 k) rfl (fun ρ hρ hf e0 => upon_call (f := 41) (by go_simp) (HK w'))) (by go_frame; rfl) (by simp only [List.nil_append, List.cons_append]; rfl) ?_
  refine walkT_is (wantedN rfl) (fun w' hC hd => tame_move _ (.inl rfl) rfl) (by go_frame; rfl) (by simp only [List.nil_append, List.cons_append]; rfl) ?_
  refine walkT_is (wantedT hops rfl rfl rfl rfl) (fun w' hC hd => tame_1 1 (.pointer (some ⟨w.heap.size, 0, none⟩)) rfl (fun ρ hρ hf e0 => upon_is (by have hc0 := c0 w' hC; have hc1 := c1 w' hC; have hc2 := c2 w' hC; have hc3 := c3 w' hC; have hc4 := c4 w' hC; go_simp))) (by go_frame; rfl) (by simp only [List.nil_append, List.cons_append]; rfl) ?_
  refine walkT_is (wantedT hops rfl rfl rfl rfl) (fun w' hC hd => tame_1 1 (.pointer (some ⟨w.heap.size, 0, none⟩)) rfl (fun ρ hρ hf e0 => upon_is (by have hc0 := c0 w' hC; have hc1 := c1 w' hC; have hc2 := c2 w' hC; have hc3 := c3 w' hC; have hc4 := c4 w' hC; go_simp))) (by go_frame; rfl) (by simp only [List.nil_append, List.cons_append]; rfl) ?_
  refine walkT_is (wantedT hops rfl rfl rfl rfl) (fun w' hC hd => tame_1 8 (opV k a b c v) rfl (fun ρ hρ hf e0 => upon_call_below (f := 15) (by go_simp) (HB w'))) (by go_frame; rfl) (by simp only [List.nil_append, List.cons_append]; rfl) ?_
  refine walkT_is (wantedT hops rfl rfl rfl rfl) (fun w' hC hd => tame_2 7 (opV k a b c v) 9 (opV k a b c' v') rfl rfl (fun ρ hρ hf e0 e1 => upon_is (by have hb0 := hne; have hb1 := hne2; have hb2 := hn3; have hb3 := hn4; go_simp))) (by go_frame; rfl) (by simp only [List.nil_append, List.cons_append]; rfl) ?_
  refine walkT_is (wantedN rfl) (fun w' hC hd => tame_pick _ _ _ true rfl rfl rfl) (by go_frame; rfl) (by simp only [List.nil_append, List.cons_append]; rfl) ?_
  refine walkT_is (wantedN rfl) (fun w' hC hd => tame_move _ (.inr rfl) rfl) (by go_frame; rfl) (by simp only [List.nil_append, List.cons_append]; rfl) ?_
  refine walkT_nil fun w6 hC6 _ => hK _ _ ?_
  have HB6 := Lib.hid (((Below.refl w.heap.size w).alloc (Nat.le_refl _) _).trans (hC6.mono (by simp)))
  clear c0 c1 c2 c3 c4 hC6
  go_wp2_with fail
  go_ret
  exact ⟨rfl, HB6.out⟩
set_option maxHeartbeats 1000000 in
theorem oPlain_4 (k a b c v a' b' c' v' : Int) (w : World) (HK : ∀ w', Calls Tryd.prog 41 #[.int .i64 k] w' fun e w'' => e = .returned (.bool true) ∧ w' = w'') (hne : (v == v') = false) (hne2 : (v' == v) = false) (hn3 : ¬ v = v') (hn4 : ¬ v' = v) (HB : ∀ w', Calls Tryd.prog 15 #[opV k a b c v] w' fun e w'' => e = .returned (opV k a b c v') ∧ Below w'.heap.size w' w'') : Calls Tryd.prog 13 #[opV k a b c v] w fun e w' => e = .returned (.bool false) ∧ Below w.heap.size w w' := by
  go_enter Tryd.func13, Tryd.ntmps13
  go_wp2_with fail
  have c0 := fun w' (hC : Below (w.alloc (.cells #[.int .i64 k, .int .i64 a, .int .i64 b, .int .i64 c, .int .u32 v] 31)).heap.size (w.alloc (.cells #[.int .i64 k, .int .i64 a, .int .i64 b, .int .i64 c, .int .u32 v] 31)) w') => (hC.cell (p := ⟨w.heap.size, 0, none⟩) (by simp)).trans (show _ = some (.int .i64 k) by go_simp)
  have c1 := fun w' (hC : Below (w.alloc (.cells #[.int .i64 k, .int .i64 a, .int .i64 b, .int .i64 c, .int .u32 v] 31)).heap.size (w.alloc (.cells #[.int .i64 k, .int .i64 a, .int .i64 b, .int .i64 c, .int .u32 v] 31)) w') => (hC.cell (p := ⟨w.heap.size, 1, none⟩) (by simp)).trans (show _ = some (.int .i64 a) by go_simp)
  have c2 := fun w' (hC : Below (w.alloc (.cells #[.int .i64 k, .int .i64 a, .int .i64 b, .int .i64 c, .int .u32 v] 31)).heap.size (w.alloc (.cells #[.int .i64 k, .int .i64 a, .int .i64 b, .int .i64 c, .int .u32 v] 31)) w') => (hC.cell (p := ⟨w.heap.size, 2, none⟩) (by simp)).trans (show _ = some (.int .i64 b) by go_simp)
  have c3 := fun w' (hC : Below (w.alloc (.cells #[.int .i64 k, .int .i64 a, .int .i64 b, .int .i64 c, .int .u32 v] 31)).heap.size (w.alloc (.cells #[.int .i64 k, .int .i64 a, .int .i64 b, .int .i64 c, .int .u32 v] 31)) w') => (hC.cell (p := ⟨w.heap.size, 3, none⟩) (by simp)).trans (show _ = some (.int .i64 c) by go_simp)
  have c4 := fun w' (hC : Below (w.alloc (.cells #[.int .i64 k, .int .i64 a, .int .i64 b, .int .i64 c, .int .u32 v] 31)).heap.size (w.alloc (.cells #[.int .i64 k, .int .i64 a, .int .i64 b, .int .i64 c, .int .u32 v] 31)) w') => (hC.cell (p := ⟨w.heap.size, 4, none⟩) (by simp)).trans (show _ = some (.int .u32 v) by go_simp)
  refine wp_region_tame_all [Fact.is (.pointer (some ⟨w.heap.size, 0, none⟩)), Fact.is (.int .i64 k), Fact.is (.bool true), Fact.is (.bool true), Fact.is (opV k a b c v), Fact.is (opV k a b c v), Fact.is (opV k a b c v'), Fact.is (.bool false), Fact.is (.bool false), Fact.is (.bool false)] (by kernel_rfl) (by kernel_rfl) rfl (by kernel_rfl) (fun ops K2 hops hK => ?_)
  refine walkT_is (wantedN rfl) (fun w' hC hd => tame_1 1 (.pointer (some ⟨w.heap.size, 0, none⟩)) rfl (fun ρ hρ hf e0 => upon_is (by go_simp))) (by go_frame; rfl) (by simp only [List.nil_append, List.cons_append]; rfl) ?_
  refine walkT_is (wantedN rfl) (fun w' hC hd => tame_1 3 (.pointer (some ⟨w.heap.size, 0, none⟩)) rfl (fun ρ hρ hf e0 => upon_is (by have hc0 := c0 w' hC; go_simp))) (by go_frame; rfl) (by simp only [List.nil_append, List.cons_append]; rfl) ?_
  refine walkT_is (wantedN rfl) (fun w' hC hd => tame_1 4 (.int .i64 k) rfl (fun ρ hρ hf e0 => upon_call (f := 41) (by go_simp) (HK w'))) (by go_frame; rfl) (by simp only [List.nil_append, List.cons_append]; rfl) ?_
  refine walkT_is (wantedN rfl) (fun w' hC hd => tame_move _ (.inl rfl) rfl) (by go_frame; rfl) (by simp only [List.nil_append, List.cons_append]; rfl) ?_
  refine walkT_is (wantedT hops rfl rfl rfl rfl) (fun w' hC hd => tame_1 1 (.pointer (some ⟨w.heap.size, 0, none⟩)) rfl (fun ρ hρ hf e0 => upon_is (by have hc0 := c0 w' hC; have hc1 := c1 w' hC; have hc2 := c2 w' hC; have hc3 := c3 w' hC; have hc4 := c4 w' hC; go_simp))) (by go_frame; rfl) (by simp only [List.nil_append, List.cons_append]; rfl) ?_
  refine walkT_is (wantedT hops rfl rfl rfl rfl) (fun w' hC hd => tame_1 1 (.pointer (some ⟨w.heap.size, 0, none⟩)) rfl (fun ρ hρ hf e0 => upon_is (by have hc0 := c0 w' hC; have hc1 := c1 w' hC; have hc2 := c2 w' hC; have hc3 := c3 w' hC; have hc4 := c4 w' hC; go_simp))) (by go_frame; rfl) (by simp only [List.nil_append, List.cons_append]; rfl) ?_
  refine walkT_is (wantedT hops rfl rfl rfl rfl) (fun w' hC hd => tame_1 8 (opV k a b c v) rfl (fun ρ hρ hf e0 => upon_call_below (f := 15) (by go_simp) (HB w'))) (by go_frame; rfl) (by simp only [List.nil_append, List.cons_append]; rfl) ?_
  refine walkT_is (wantedT hops rfl rfl rfl rfl) (fun w' hC hd => tame_2 7 (opV k a b c v) 9 (opV k a b c v') rfl rfl (fun ρ hρ hf e0 e1 => upon_is (by have hb0 := hne; have hb1 := hne2; have hb2 := hn3; have hb3 := hn4; go_simp))) (by go_frame; rfl) (by simp only [List.nil_append, List.cons_append]; rfl) ?_
  refine walkT_is (wantedN rfl) (fun w' hC hd => tame_pick _ _ _ true rfl rfl rfl) (by go_frame; rfl) (by simp only [List.nil_append, List.cons_append]; rfl) ?_
  refine walkT_is (wantedN rfl) (fun w' hC hd => tame_move _ (.inr rfl) rfl) (by go_frame; rfl) (by simp only [List.nil_append, List.cons_append]; rfl) ?_
  refine walkT_nil fun w6 hC6 _ => hK _ _ ?_
  have HB6 := Lib.hid (((Below.refl w.heap.size w).alloc (Nat.le_refl _) _).trans (hC6.mono (by simp)))
  clear c0 c1 c2 c3 c4 hC6
  go_wp2_with fail
  go_ret
  exact ⟨rfl, HB6.out⟩
theorem oPlain_kind (k a b c v : Int) (w : World) (hk : opK k = false) : Calls Tryd.prog 13 #[opV k a b c v] w fun e w' => e = .returned (.bool false) ∧ Below w.heap.size w w' := by
  have HK : ∀ w', Calls Tryd.prog 41 #[.int .i64 k] w' fun e w'' => e = .returned (.bool false) ∧ w' = w'' := fun w' => by have := oIsKind_any k w'; rw [show decide (1 ≤ k ∧ k ≤ 10) = false from hk] at this; exact this
  go_enter Tryd.func13, Tryd.ntmps13
  go_wp2_with fail
  have c0 := fun w' (hC : Below (w.alloc (.cells #[.int .i64 k, .int .i64 a, .int .i64 b, .int .i64 c, .int .u32 v] 31)).heap.size (w.alloc (.cells #[.int .i64 k, .int .i64 a, .int .i64 b, .int .i64 c, .int .u32 v] 31)) w') => (hC.cell (p := ⟨w.heap.size, 0, none⟩) (by simp)).trans (show _ = some (.int .i64 k) by go_simp)
  have c1 := fun w' (hC : Below (w.alloc (.cells #[.int .i64 k, .int .i64 a, .int .i64 b, .int .i64 c, .int .u32 v] 31)).heap.size (w.alloc (.cells #[.int .i64 k, .int .i64 a, .int .i64 b, .int .i64 c, .int .u32 v] 31)) w') => (hC.cell (p := ⟨w.heap.size, 1, none⟩) (by simp)).trans (show _ = some (.int .i64 a) by go_simp)
  have c2 := fun w' (hC : Below (w.alloc (.cells #[.int .i64 k, .int .i64 a, .int .i64 b, .int .i64 c, .int .u32 v] 31)).heap.size (w.alloc (.cells #[.int .i64 k, .int .i64 a, .int .i64 b, .int .i64 c, .int .u32 v] 31)) w') => (hC.cell (p := ⟨w.heap.size, 2, none⟩) (by simp)).trans (show _ = some (.int .i64 b) by go_simp)
  have c3 := fun w' (hC : Below (w.alloc (.cells #[.int .i64 k, .int .i64 a, .int .i64 b, .int .i64 c, .int .u32 v] 31)).heap.size (w.alloc (.cells #[.int .i64 k, .int .i64 a, .int .i64 b, .int .i64 c, .int .u32 v] 31)) w') => (hC.cell (p := ⟨w.heap.size, 3, none⟩) (by simp)).trans (show _ = some (.int .i64 c) by go_simp)
  have c4 := fun w' (hC : Below (w.alloc (.cells #[.int .i64 k, .int .i64 a, .int .i64 b, .int .i64 c, .int .u32 v] 31)).heap.size (w.alloc (.cells #[.int .i64 k, .int .i64 a, .int .i64 b, .int .i64 c, .int .u32 v] 31)) w') => (hC.cell (p := ⟨w.heap.size, 4, none⟩) (by simp)).trans (show _ = some (.int .u32 v) by go_simp)
  refine wp_region_tame_all [Fact.is (.pointer (some ⟨w.heap.size, 0, none⟩)), Fact.is (.int .i64 k), Fact.is (.bool false), Fact.is (.bool false), Fact.is undef, Fact.is undef, Fact.is undef, Fact.is undef, Fact.is (.bool false), Fact.is (.bool false)] (by kernel_rfl) (by kernel_rfl) rfl (by kernel_rfl) (fun ops K2 hops hK => ?_)
  refine walkT_is (wantedN rfl) (fun w' hC hd => tame_1 1 (.pointer (some ⟨w.heap.size, 0, none⟩)) rfl (fun ρ hρ hf e0 => upon_is (by go_simp))) (by go_frame; rfl) (by simp only [List.nil_append, List.cons_append]; rfl) ?_
  refine walkT_is (wantedN rfl) (fun w' hC hd => tame_1 3 (.pointer (some ⟨w.heap.size, 0, none⟩)) rfl (fun ρ hρ hf e0 => upon_is (by have hc0 := c0 w' hC; go_simp))) (by go_frame; rfl) (by simp only [List.nil_append, List.cons_append]; rfl) ?_
  refine walkT_is (wantedN rfl) (fun w' hC hd => tame_1 4 (.int .i64 k) rfl (fun ρ hρ hf e0 => upon_call (f := 41) (by go_simp) (HK w'))) (by go_frame; rfl) (by simp only [List.nil_append, List.cons_append]; rfl) ?_
  refine walkT_is (wantedN rfl) (fun w' hC hd => tame_move _ (.inl rfl) rfl) (by go_frame; rfl) (by simp only [List.nil_append, List.cons_append]; rfl) ?_
  refine walkT_skip (wantedF hops rfl rfl rfl rfl) (by go_frame; rfl) (by simp only [List.nil_append, List.cons_append]; rfl) ?_
  refine walkT_skip (wantedF hops rfl rfl rfl rfl) (by go_frame; rfl) (by simp only [List.nil_append, List.cons_append]; rfl) ?_
  refine walkT_skip (wantedF hops rfl rfl rfl rfl) (by go_frame; rfl) (by simp only [List.nil_append, List.cons_append]; rfl) ?_
  refine walkT_skip (wantedF hops rfl rfl rfl rfl) (by go_frame; rfl) (by simp only [List.nil_append, List.cons_append]; rfl) ?_
  refine walkT_is (wantedN rfl) (fun w' hC hd => tame_pick _ _ _ false rfl rfl rfl) (by go_frame; rfl) (by simp only [List.nil_append, List.cons_append]; rfl) ?_
  refine walkT_is (wantedN rfl) (fun w' hC hd => tame_move _ (.inr rfl) rfl) (by go_frame; rfl) (by simp only [List.nil_append, List.cons_append]; rfl) ?_
  refine walkT_nil fun w6 hC6 _ => hK _ _ ?_
  have HB6 := Lib.hid (((Below.refl w.heap.size w).alloc (Nat.le_refl _) _).trans (hC6.mono (by simp)))
  clear c0 c1 c2 c3 c4 hC6
  go_wp2_with fail
  go_ret
  exact ⟨rfl, HB6.out⟩
set_option maxHeartbeats 1000000 in
theorem rPlain_0 (k a b c v a' b' c' v' : Int) (w : World) (hk1 : 1 ≤ k) (hk2 : k ≤ 10) (HB : ∀ w', Calls Tryd.prog 16 #[opV k a b c v] w' fun e w'' => e = .returned (opV k a b c v) ∧ Below w'.heap.size w' w'') : Calls Tryd.prog 14 #[opV k a b c v] w fun e w' => e = .returned (.bool true) ∧ Below w.heap.size w w' := by
  go_enter Tryd.func14, Tryd.ntmps14
  go_wp2_with fail
  have c0 := fun w' (hC : Below (w.alloc (.cells #[.int .i64 k, .int .i64 a, .int .i64 b, .int .i64 c, .int .u32 v] 31)).heap.size (w.alloc (.cells #[.int .i64 k, .int .i64 a, .int .i64 b, .int .i64 c, .int .u32 v] 31)) w') => (hC.cell (p := ⟨w.heap.size, 0, none⟩) (by simp)).trans (show _ = some (.int .i64 k) by go_simp)
  have c1 := fun w' (hC : Below (w.alloc (.cells #[.int .i64 k, .int .i64 a, .int .i64 b, .int .i64 c, .int .u32 v] 31)).heap.size (w.alloc (.cells #[.int .i64 k, .int .i64 a, .int .i64 b, .int .i64 c, .int .u32 v] 31)) w') => (hC.cell (p := ⟨w.heap.size, 1, none⟩) (by simp)).trans (show _ = some (.int .i64 a) by go_simp)
  have c2 := fun w' (hC : Below (w.alloc (.cells #[.int .i64 k, .int .i64 a, .int .i64 b, .int .i64 c, .int .u32 v] 31)).heap.size (w.alloc (.cells #[.int .i64 k, .int .i64 a, .int .i64 b, .int .i64 c, .int .u32 v] 31)) w') => (hC.cell (p := ⟨w.heap.size, 2, none⟩) (by simp)).trans (show _ = some (.int .i64 b) by go_simp)
  have c3 := fun w' (hC : Below (w.alloc (.cells #[.int .i64 k, .int .i64 a, .int .i64 b, .int .i64 c, .int .u32 v] 31)).heap.size (w.alloc (.cells #[.int .i64 k, .int .i64 a, .int .i64 b, .int .i64 c, .int .u32 v] 31)) w') => (hC.cell (p := ⟨w.heap.size, 3, none⟩) (by simp)).trans (show _ = some (.int .i64 c) by go_simp)
  have c4 := fun w' (hC : Below (w.alloc (.cells #[.int .i64 k, .int .i64 a, .int .i64 b, .int .i64 c, .int .u32 v] 31)).heap.size (w.alloc (.cells #[.int .i64 k, .int .i64 a, .int .i64 b, .int .i64 c, .int .u32 v] 31)) w') => (hC.cell (p := ⟨w.heap.size, 4, none⟩) (by simp)).trans (show _ = some (.int .u32 v) by go_simp)
  refine wp_region_tame_all [Fact.is (.pointer (some ⟨w.heap.size, 0, none⟩)), Fact.is (.int .i64 k), Fact.is (.bool true), Fact.is (.bool true), Fact.is (.pointer (some ⟨w.heap.size, 0, none⟩)), Fact.is (.int .i64 k), Fact.is (.bool true), Fact.is (.bool true), Fact.is (.bool true), Fact.is (opV k a b c v), Fact.is (opV k a b c v), Fact.is (opV k a b c v), Fact.is (.bool true), Fact.is (.bool true), Fact.is (.bool true)] (by kernel_rfl) (by kernel_rfl) rfl (by kernel_rfl) (fun ops K2 hops hK => ?_)
  refine walkT_is (wantedN rfl) (fun w' hC hd => tame_1 1 (.pointer (some ⟨w.heap.size, 0, none⟩)) rfl (fun ρ hρ hf e0 => upon_is (by go_simp))) (by go_frame; rfl) (by simp only [List.nil_append, List.cons_append]; rfl) ?_
  refine walkT_is (wantedN rfl) (fun w' hC hd => tame_1 3 (.pointer (some ⟨w.heap.size, 0, none⟩)) rfl (fun ρ hρ hf e0 => upon_is (by have hc0 := c0 w' hC; go_simp))) (by go_frame; rfl) (by simp only [List.nil_append, List.cons_append]; rfl) ?_
  refine walkT_is (wantedN rfl) (fun w' hC hd => tame_1 4 (.int .i64 k) rfl (fun ρ hρ hf e0 => upon_is (by have hb0 := hk1; go_simp))) (by go_frame; rfl) (by simp only [List.nil_append, List.cons_append]; rfl) ?_
  refine walkT_is (wantedN rfl) (fun w' hC hd => tame_move _ (.inl rfl) rfl) (by go_frame; rfl) (by simp only [List.nil_append, List.cons_append]; rfl) ?_
  refine walkT_is (wantedT hops rfl rfl rfl rfl) (fun w' hC hd => tame_1 1 (.pointer (some ⟨w.heap.size, 0, none⟩)) rfl (fun ρ hρ hf e0 => upon_is (by go_simp))) (by go_frame; rfl) (by simp only [List.nil_append, List.cons_append]; rfl) ?_
  refine walkT_is (wantedT hops rfl rfl rfl rfl) (fun w' hC hd => tame_1 7 (.pointer (some ⟨w.heap.size, 0, none⟩)) rfl (fun ρ hρ hf e0 => upon_is (by have hc0 := c0 w' hC; go_simp))) (by go_frame; rfl) (by simp only [List.nil_append, List.cons_append]; rfl) ?_
  refine walkT_is (wantedT hops rfl rfl rfl rfl) (fun w' hC hd => tame_1 8 (.int .i64 k) rfl (fun ρ hρ hf e0 => upon_is (by have hb0 := hk2; go_simp))) (by go_frame; rfl) (by simp only [List.nil_append, List.cons_append]; rfl) ?_
  refine walkT_is (wantedN rfl) (fun w' hC hd => tame_pick _ _ _ true rfl rfl rfl) (by go_frame; rfl) (by simp only [List.nil_append, List.cons_append]; rfl) ?_
  refine walkT_is (wantedN rfl) (fun w' hC hd => tame_move _ (.inl rfl) rfl) (by go_frame; rfl) (by simp only [List.nil_append, List.cons_append]; rfl) ?_
  refine walkT_is (wantedT hops rfl rfl rfl rfl) (fun w' hC hd => tame_1 1 (.pointer (some ⟨w.heap.size, 0, none⟩)) rfl (fun ρ hρ hf e0 => upon_is (by have hc0 := c0 w' hC; have hc1 := c1 w' hC; have hc2 := c2 w' hC; have hc3 := c3 w' hC; have hc4 := c4 w' hC; go_simp))) (by go_frame; rfl) (by simp only [List.nil_append, List.cons_append]; rfl) ?_
  refine walkT_is (wantedT hops rfl rfl rfl rfl) (fun w' hC hd => tame_1 12 (opV k a b c v) rfl (fun ρ hρ hf e0 => upon_call_below (f := 16) (by go_simp) (HB w'))) (by go_frame; rfl) (by simp only [List.nil_append, List.cons_append]; rfl) ?_
  refine walkT_is (wantedT hops rfl rfl rfl rfl) (fun w' hC hd => tame_1 1 (.pointer (some ⟨w.heap.size, 0, none⟩)) rfl (fun ρ hρ hf e0 => upon_is (by have hc0 := c0 w' hC; have hc1 := c1 w' hC; have hc2 := c2 w' hC; have hc3 := c3 w' hC; have hc4 := c4 w' hC; go_simp))) (by go_frame; rfl) (by simp only [List.nil_append, List.cons_append]; rfl) ?_
  refine walkT_is (wantedT hops rfl rfl rfl rfl) (fun w' hC hd => tame_2 13 (opV k a b c v) 14 (opV k a b c v) rfl rfl (fun ρ hρ hf e0 e1 => upon_is (by go_simp))) (by go_frame; rfl) (by simp only [List.nil_append, List.cons_append]; rfl) ?_
  refine walkT_is (wantedN rfl) (fun w' hC hd => tame_pick _ _ _ true rfl rfl rfl) (by go_frame; rfl) (by simp only [List.nil_append, List.cons_append]; rfl) ?_
  refine walkT_is (wantedN rfl) (fun w' hC hd => tame_move _ (.inr rfl) rfl) (by go_frame; rfl) (by simp only [List.nil_append, List.cons_append]; rfl) ?_
  refine walkT_nil fun w6 hC6 _ => hK _ _ ?_
  have HB6 := Lib.hid (((Below.refl w.heap.size w).alloc (Nat.le_refl _) _).trans (hC6.mono (by simp)))
  clear c0 c1 c2 c3 c4 hC6
  go_wp2_with fail
  go_ret
  exact ⟨rfl, HB6.out⟩
set_option maxHeartbeats 1000000 in
theorem rPlain_1 (k a b c v a' b' c' v' : Int) (w : World) (hk1 : 1 ≤ k) (hk2 : k ≤ 10) (hne : (a == a') = false) (hne2 : (a' == a) = false) (hn3 : ¬ a = a') (hn4 : ¬ a' = a) (HB : ∀ w', Calls Tryd.prog 16 #[opV k a b c v] w' fun e w'' => e = .returned (opV k a' b' c' v') ∧ Below w'.heap.size w' w'') : Calls Tryd.prog 14 #[opV k a b c v] w fun e w' => e = .returned (.bool false) ∧ Below w.heap.size w w' := by
  go_enter Tryd.func14, Tryd.ntmps14
  go_wp2_with fail
  have c0 := fun w' (hC : Below (w.alloc (.cells #[.int .i64 k, .int .i64 a, .int .i64 b, .int .i64 c, .int .u32 v] 31)).heap.size (w.alloc (.cells #[.int .i64 k, .int .i64 a, .int .i64 b, .int .i64 c, .int .u32 v] 31)) w') => (hC.cell (p := ⟨w.heap.size, 0, none⟩) (by simp)).trans (show _ = some (.int .i64 k) by go_simp)
  have c1 := fun w' (hC : Below (w.alloc (.cells #[.int .i64 k, .int .i64 a, .int .i64 b, .int .i64 c, .int .u32 v] 31)).heap.size (w.alloc (.cells #[.int .i64 k, .int .i64 a, .int .i64 b, .int .i64 c, .int .u32 v] 31)) w') => (hC.cell (p := ⟨w.heap.size, 1, none⟩) (by simp)).trans (show _ = some (.int .i64 a) by go_simp)
  have c2 := fun w' (hC : Below (w.alloc (.cells #[.int .i64 k, .int .i64 a, .int .i64 b, .int .i64 c, .int .u32 v] 31)).heap.size (w.alloc (.cells #[.int .i64 k, .int .i64 a, .int .i64 b, .int .i64 c, .int .u32 v] 31)) w') => (hC.cell (p := ⟨w.heap.size, 2, none⟩) (by simp)).trans (show _ = some (.int .i64 b) by go_simp)
  have c3 := fun w' (hC : Below (w.alloc (.cells #[.int .i64 k, .int .i64 a, .int .i64 b, .int .i64 c, .int .u32 v] 31)).heap.size (w.alloc (.cells #[.int .i64 k, .int .i64 a, .int .i64 b, .int .i64 c, .int .u32 v] 31)) w') => (hC.cell (p := ⟨w.heap.size, 3, none⟩) (by simp)).trans (show _ = some (.int .i64 c) by go_simp)
  have c4 := fun w' (hC : Below (w.alloc (.cells #[.int .i64 k, .int .i64 a, .int .i64 b, .int .i64 c, .int .u32 v] 31)).heap.size (w.alloc (.cells #[.int .i64 k, .int .i64 a, .int .i64 b, .int .i64 c, .int .u32 v] 31)) w') => (hC.cell (p := ⟨w.heap.size, 4, none⟩) (by simp)).trans (show _ = some (.int .u32 v) by go_simp)
  refine wp_region_tame_all [Fact.is (.pointer (some ⟨w.heap.size, 0, none⟩)), Fact.is (.int .i64 k), Fact.is (.bool true), Fact.is (.bool true), Fact.is (.pointer (some ⟨w.heap.size, 0, none⟩)), Fact.is (.int .i64 k), Fact.is (.bool true), Fact.is (.bool true), Fact.is (.bool true), Fact.is (opV k a b c v), Fact.is (opV k a' b' c' v'), Fact.is (opV k a b c v), Fact.is (.bool false), Fact.is (.bool false), Fact.is (.bool false)] (by kernel_rfl) (by kernel_rfl) rfl (by kernel_rfl) (fun ops K2 hops hK => ?_)
  refine walkT_is (wantedN rfl) (fun w' hC hd => tame_1 1 (.pointer (some ⟨w.heap.size, 0, none⟩)) rfl (fun ρ hρ hf e0 => upon_is (by go_simp))) (by go_frame; rfl) (by simp only [List.nil_append, List.cons_append]; rfl) ?_
  refine walkT_is (wantedN rfl) (fun w' hC hd => tame_1 3 (.pointer (some ⟨w.heap.size, 0, none⟩)) rfl (fun ρ hρ hf e0 => upon_is (by have hc0 := c0 w' hC; go_simp))) (by go_frame; rfl) (by simp only [List.nil_append, List.cons_append]; rfl) ?_
  refine walkT_is (wantedN rfl) (fun w' hC hd => tame_1 4 (.int .i64 k) rfl (fun ρ hρ hf e0 => upon_is (by have hb0 := hk1; go_simp))) (by go_frame; rfl) (by simp only [List.nil_append, List.cons_append]; rfl) ?_
  refine walkT_is (wantedN rfl) (fun w' hC hd => tame_move _ (.inl rfl) rfl) (by go_frame; rfl) (by simp only [List.nil_append, List.cons_append]; rfl) ?_
  refine walkT_is (wantedT hops rfl rfl rfl rfl) (fun w' hC hd => tame_1 1 (.pointer (some ⟨w.heap.size, 0, none⟩)) rfl (fun ρ hρ hf e0 => upon_is (by go_simp))) (by go_frame; rfl) (by simp only [List.nil_append, List.cons_append]; rfl) ?_
  refine walkT_is (wantedT hops rfl rfl rfl rfl) (fun w' hC hd => tame_1 7 (.pointer (some ⟨w.heap.size, 0, none⟩)) rfl (fun ρ hρ hf e0 => upon_is (by have hc0 := c0 w' hC; go_simp))) (by go_frame; rfl) (by simp only [List.nil_append, List.cons_append]; rfl) ?_
  refine walkT_is (wantedT hops rfl rfl rfl rfl) (fun w' hC hd => tame_1 8 (.int .i64 k) rfl (fun ρ hρ hf e0 => upon_is (by have hb0 := hk2; go_simp))) (by go_frame; rfl) (by simp only [List.nil_append, List.cons_append]; rfl) ?_
  refine walkT_is (wantedN rfl) (fun w' hC hd => tame_pick _ _ _ true rfl rfl rfl) (by go_frame; rfl) (by simp only [List.nil_append, List.cons_append]; rfl) ?_
  refine walkT_is (wantedN rfl) (fun w' hC hd => tame_move _ (.inl rfl) rfl) (by go_frame; rfl) (by simp only [List.nil_append, List.cons_append]; rfl) ?_
  refine walkT_is (wantedT hops rfl rfl rfl rfl) (fun w' hC hd => tame_1 1 (.pointer (some ⟨w.heap.size, 0, none⟩)) rfl (fun ρ hρ hf e0 => upon_is (by have hc0 := c0 w' hC; have hc1 := c1 w' hC; have hc2 := c2 w' hC; have hc3 := c3 w' hC; have hc4 := c4 w' hC; go_simp))) (by go_frame; rfl) (by simp only [List.nil_append, List.cons_append]; rfl) ?_
  refine walkT_is (wantedT hops rfl rfl rfl rfl) (fun w' hC hd => tame_1 12 (opV k a b c v) rfl (fun ρ hρ hf e0 => upon_call_below (f := 16) (by go_simp) (HB w'))) (by go_frame; rfl) (by simp only [List.nil_append, List.cons_append]; rfl) ?_
  refine walkT_is (wantedT hops rfl rfl rfl rfl) (fun w' hC hd => tame_1 1 (.pointer (some ⟨w.heap.size, 0, none⟩)) rfl (fun ρ hρ hf e0 => upon_is (by have hc0 := c0 w' hC; have hc1 := c1 w' hC; have hc2 := c2 w' hC; have hc3 := c3 w' hC; have hc4 := c4 w' hC; go_simp))) (by go_frame; rfl) (by simp only [List.nil_append, List.cons_append]; rfl) ?_
  refine walkT_is (wantedT hops rfl rfl rfl rfl) (fun w' hC hd => tame_2 13 (opV k a' b' c' v') 14 (opV k a b c v) rfl rfl (fun ρ hρ hf e0 e1 => upon_is (by have hb0 := hne; have hb1 := hne2; have hb2 := hn3; have hb3 := hn4; go_simp))) (by go_frame; rfl) (by simp only [List.nil_append, List.cons_append]; rfl) ?_
  refine walkT_is (wantedN rfl) (fun w' hC hd => tame_pick _ _ _ true rfl rfl rfl) (by go_frame; rfl) (by simp only [List.nil_append, List.cons_append]; rfl) ?_
  refine walkT_is (wantedN rfl) (fun w' hC hd => tame_move _ (.inr rfl) rfl) (by go_frame; rfl) (by simp only [List.nil_append, List.cons_append]; rfl) ?_
  refine walkT_nil fun w6 hC6 _ => hK _ _ ?_
  have HB6 := Lib.hid (((Below.refl w.heap.size w).alloc (Nat.le_refl _) _).trans (hC6.mono (by simp)))
  clear c0 c1 c2 c3 c4 hC6
  go_wp2_with fail
  go_ret
  exact ⟨rfl, HB6.out⟩
set_option maxHeartbeats 1000000 in
theorem rPlain_2 (k a b c v a' b' c' v' : Int) (w : World) (hk1 : 1 ≤ k) (hk2 : k ≤ 10) (hne : (b == b') = false) (hne2 : (b' == b) = false) (hn3 : ¬ b = b') (hn4 : ¬ b' = b) (HB : ∀ w', Calls Tryd.prog 16 #[opV k a b c v] w' fun e w'' => e = .returned (opV k a b' c' v') ∧ Below w'.heap.size w' w'') : Calls Tryd.prog 14 #[opV k a b c v] w fun e w' => e = .returned (.bool false) ∧ Below w.heap.size w w' := by
  go_enter Tryd.func14, Tryd.ntmps14
  go_wp2_with fail
  have c0 := fun w' (hC : Below (w.alloc (.cells #[.int .i64 k, .int .i64 a, .int .i64 b, .int .i64 c, .int .u32 v] 31)).heap.size (w.alloc (.cells #[.int .i64 k, .int .i64 a, .int .i64 b, .int .i64 c, .int .u32 v] 31)) w') => (hC.cell (p := ⟨w.heap.size, 0, none⟩) (by simp)).trans (show _ = some (.int .i64 k) by go_simp)
  have c1 := fun w' (hC : Below (w.alloc (.cells #[.int .i64 k, .int .i64 a, .int .i64 b, .int .i64 c, .int .u32 v] 31)).heap.size (w.alloc (.cells #[.int .i64 k, .int .i64 a, .int .i64 b, .int .i64 c, .int .u32 v] 31)) w') => (hC.cell (p := ⟨w.heap.size, 1, none⟩) (by simp)).trans (show _ = some (.int .i64 a) by go_simp)
  have c2 := fun w' (hC : Below (w.alloc (.cells #[.int .i64 k, .int .i64 a, .int .i64 b, .int .i64 c, .int .u32 v] 31)).heap.size (w.alloc (.cells #[.int .i64 k, .int .i64 a, .int .i64 b, .int .i64 c, .int .u32 v] 31)) w') => (hC.cell (p := ⟨w.heap.size, 2, none⟩) (by simp)).trans (show _ = some (.int .i64 b) by go_simp)
  have c3 := fun w' (hC : Below (w.alloc (.cells #[.int .i64 k, .int .i64 a, .int .i64 b, .int .i64 c, .int .u32 v] 31)).heap.size (w.alloc (.cells #[.int .i64 k, .int .i64 a, .int .i64 b, .int .i64 c, .int .u32 v] 31)) w') => (hC.cell (p := ⟨w.heap.size, 3, none⟩) (by simp)).trans (show _ = some (.int .i64 c) by go_simp)
  have c4 := fun w' (hC : Below (w.alloc (.cells #[.int .i64 k, .int .i64 a, .int .i64 b, .int .i64 c, .int .u32 v] 31)).heap.size (w.alloc (.cells #[.int .i64 k, .int .i64 a, .int .i64 b, .int .i64 c, .int .u32 v] 31)) w') => (hC.cell (p := ⟨w.heap.size, 4, none⟩) (by simp)).trans (show _ = some (.int .u32 v) by go_simp)
  refine wp_region_tame_all [Fact.is (.pointer (some ⟨w.heap.size, 0, none⟩)), Fact.is (.int .i64 k), Fact.is (.bool true), Fact.is (.bool true), Fact.is (.pointer (some ⟨w.heap.size, 0, none⟩)), Fact.is (.int .i64 k), Fact.is (.bool true), Fact.is (.bool true), Fact.is (.bool true), Fact.is (opV k a b c v), Fact.is (opV k a b' c' v'), Fact.is (opV k a b c v), Fact.is (.bool false), Fact.is (.bool false), Fact.is (.bool false)] (by kernel_rfl) (by kernel_rfl) rfl (by kernel_rfl) (fun ops K2 hops hK => ?_)
  refine walkT_is (wantedN rfl) (fun w' hC hd => tame_1 1 (.pointer (some ⟨w.heap.size, 0, none⟩)) rfl (fun ρ hρ hf e0 => upon_is (by go_simp))) (by go_frame; rfl) (by simp only [List.nil_append, List.cons_append]; rfl) ?_
  refine walkT_is (wantedN rfl) (fun w' hC hd => tame_1 3 (.pointer (some ⟨w.heap.size, 0, none⟩)) rfl (fun ρ hρ hf e0 => upon_is (by have hc0 := c0 w' hC; go_simp))) (by go_frame; rfl) (by simp only [List.nil_append, List.cons_append]; rfl) ?_
  refine walkT_is (wantedN rfl) (fun w' hC hd => tame_1 4 (.int .i64 k) rfl (fun ρ hρ hf e0 => upon_is (by have hb0 := hk1; go_simp))) (by go_frame; rfl) (by simp only [List.nil_append, List.cons_append]; rfl) ?_
  refine walkT_is (wantedN rfl) (fun w' hC hd => tame_move _ (.inl rfl) rfl) (by go_frame; rfl) (by simp only [List.nil_append, List.cons_append]; rfl) ?_
  refine walkT_is (wantedT hops rfl rfl rfl rfl) (fun w' hC hd => tame_1 1 (.pointer (some ⟨w.heap.size, 0, none⟩)) rfl (fun ρ hρ hf e0 => upon_is (by go_simp))) (by go_frame; rfl) (by simp only [List.nil_append, List.cons_append]; rfl) ?_
  refine walkT_is (wantedT hops rfl rfl rfl rfl) (fun w' hC hd => tame_1 7 (.pointer (some ⟨w.heap.size, 0, none⟩)) rfl (fun ρ hρ hf e0 => upon_is (by have hc0 := c0 w' hC; go_simp))) (by go_frame; rfl) (by simp only [List.nil_append, List.cons_append]; rfl) ?_
  refine walkT_is (wantedT hops rfl rfl rfl rfl) (fun w' hC hd => tame_1 8 (.int .i64 k) rfl (fun ρ hρ hf e0 => upon_is (by have hb0 := hk2; go_simp))) (by go_frame; rfl) (by simp only [List.nil_append, List.cons_append]; rfl) ?_
  refine walkT_is (wantedN rfl) (fun w' hC hd => tame_pick _ _ _ true rfl rfl rfl) (by go_frame; rfl) (by simp only [List.nil_append, List.cons_append]; rfl) ?_
  refine walkT_is (wantedN rfl) (fun w' hC hd => tame_move _ (.inl rfl) rfl) (by go_frame; rfl) (by simp only [List.nil_append, List.cons_append]; rfl) ?_
  refine walkT_is (wantedT hops rfl rfl rfl rfl) (fun w' hC hd => tame_1 1 (.pointer (some ⟨w.heap.size, 0, none⟩)) rfl (fun ρ hρ hf e0 => upon_is (by have hc0 := c0 w' hC; have hc1 := c1 w' hC; have hc2 := c2 w' hC; have hc3 := c3 w' hC; have hc4 := c4 w' hC; go_simp))) (by go_frame; rfl) (by simp only [List.nil_append, List.cons_append]; rfl) ?_
  refine walkT_is (wantedT hops rfl rfl rfl rfl) (fun w' hC hd => tame_1 12 (opV k a b c v) rfl (fun ρ hρ hf e0 => upon_call_below (f := 16) (by go_simp) (HB w'))) (by go_frame; rfl) (by simp only [List.nil_append, List.cons_append]; rfl) ?_
  refine walkT_is (wantedT hops rfl rfl rfl rfl) (fun w' hC hd => tame_1 1 (.pointer (some ⟨w.heap.size, 0, none⟩)) rfl (fun ρ hρ hf e0 => upon_is (by have hc0 := c0 w' hC; have hc1 := c1 w' hC; have hc2 := c2 w' hC; have hc3 := c3 w' hC; have hc4 := c4 w' hC; go_simp))) (by go_frame; rfl) (by simp only [List.nil_append, List.cons_append]; rfl) ?_
  refine walkT_is (wantedT hops rfl rfl rfl rfl) (fun w' hC hd => tame_2 13 (opV k a b' c' v') 14 (opV k a b c v) rfl rfl (fun ρ hρ hf e0 e1 => upon_is (by have hb0 := hne; have hb1 := hne2; have hb2 := hn3; have hb3 := hn4; go_simp))) (by go_frame; rfl) (by simp only [List.nil_append, List.cons_append]; rfl) ?_
  refine walkT_is (wantedN rfl) (fun w' hC hd => tame_pick _ _ _ true rfl rfl rfl) (by go_frame; rfl) (by simp only [List.nil_append, List.cons_append]; rfl) ?_
  refine walkT_is (wantedN rfl) (fun w' hC hd => tame_move _ (.inr rfl) rfl) (by go_frame; rfl) (by simp only [List.nil_append, List.cons_append]; rfl) ?_
  refine walkT_nil fun w6 hC6 _ => hK _ _ ?_
  have HB6 := Lib.hid (((Below.refl w.heap.size w).alloc (Nat.le_refl _) _).trans (hC6.mono (by simp)))
  clear c0 c1 c2 c3 c4 hC6
  go_wp2_with fail
  go_ret
  exact ⟨rfl, HB6.out⟩
set_option maxHeartbeats 1000000 in
theorem rPlain_3 (k a b c v a' b' c' v' : Int) (w : World) (hk1 : 1 ≤ k) (hk2 : k ≤ 10) (hne : (c == c') = false) (hne2 : (c' == c) = false) (hn3 : ¬ c = c') (hn4 : ¬ c' = c) (HB : ∀ w', Calls Tryd.prog 16 #[opV k a b c v] w' fun e w'' => e = .returned (opV k a b c' v') ∧ Below w'.heap.size w' w'') : Calls Tryd.prog 14 #[opV k a b c v] w fun e w' => e = .returned (.bool false) ∧ Below w.heap.size w w' := by
  go_enter Tryd.func14, Tryd.ntmps14
  go_wp2_with fail
  have c0 := fun w' (hC : Below (w.alloc (.cells #[.int .i64 k, .int .i64 a, .int .i64 b, .int .i64 c, .int .u32 v] 31)).heap.size (w.alloc (.cells #[.int .i64 k, .int .i64 a, .int .i64 b, .int .i64 c, .int .u32 v] 31)) w') => (hC.cell (p := ⟨w.heap.size, 0, none⟩) (by simp)).trans (show _ = some (.int .i64 k) by go_simp)
  have c1 := fun w' (hC : Below (w.alloc (.cells #[.int .i64 k, .int .i64 a, .int .i64 b, .int .i64 c, .int .u32 v] 31)).heap.size (w.alloc (.cells #[.int .i64 k, .int .i64 a, .int .i64 b, .int .i64 c, .int .u32 v] 31)) w') => (hC.cell (p := ⟨w.heap.size, 1, none⟩) (by simp)).trans (show _ = some (.int .i64 a) by go_simp)
  have c2 := fun w' (hC : Below (w.alloc (.cells #[.int .i64 k, .int .i64 a, .int .i64 b, .int .i64 c, .int .u32 v] 31)).heap.size (w.alloc (.cells #[.int .i64 k, .int .i64 a, .int .i64 b, .int .i64 c, .int .u32 v] 31)) w') => (hC.cell (p := ⟨w.heap.size, 2, none⟩) (by simp)).trans (show _ = some (.int .i64 b) by go_simp)
  have c3 := fun w' (hC : Below (w.alloc (.cells #[.int .i64 k, .int .i64 a, .int .i64 b, .int .i64 c, .int .u32 v] 31)).heap.size (w.alloc (.cells #[.int .i64 k, .int .i64 a, .int .i64 b, .int .i64 c, .int .u32 v] 31)) w') => (hC.cell (p := ⟨w.heap.size, 3, none⟩) (by simp)).trans (show _ = some (.int .i64 c) by go_simp)
  have c4 := fun w' (hC : Below (w.alloc (.cells #[.int .i64 k, .int .i64 a, .int .i64 b, .int .i64 c, .int .u32 v] 31)).heap.size (w.alloc (.cells #[.int .i64 k, .int .i64 a, .int .i64 b, .int .i64 c, .int .u32 v] 31)) w') => (hC.cell (p := ⟨w.heap.size, 4, none⟩) (by simp)).trans (show _ = some (.int .u32 v) by go_simp)
  refine wp_region_tame_all [Fact.is (.pointer (some ⟨w.heap.size, 0, none⟩)), Fact.is (.int .i64 k), Fact.is (.bool true), Fact.is (.bool true), Fact.is (.pointer (some ⟨w.heap.size, 0, none⟩)), Fact.is (.int .i64 k), Fact.is (.bool true), Fact.is (.bool true), Fact.is (.bool true), Fact.is (opV k a b c v), Fact.is (opV k a b c' v'), Fact.is (opV k a b c v), Fact.is (.bool false), Fact.is (.bool false), Fact.is (.bool false)] (by kernel_rfl) (by kernel_rfl) rfl (by kernel_rfl) (fun ops K2 hops hK => ?_)
  refine walkT_is (wantedN rfl) (fun w' hC hd => tame_1 1 (.pointer (some ⟨w.heap.size, 0, none⟩)) rfl (fun ρ hρ hf e0 => upon_is (by go_simp))) (by go_frame; rfl) (by simp only [List.nil_append, List.cons_append]; rfl) ?_
  refine walkT_is (wantedN rfl) (fun w' hC hd => tame_1 3 (.pointer (some ⟨w.heap.size, 0, none⟩)) rfl (fun ρ hρ hf e0 => upon_is (by have hc0 := c0 w' hC; go_simp))) (by go_frame; rfl) (by simp only [List.nil_append, List.cons_append]; rfl) ?_
  refine walkT_is (wantedN rfl) (fun w' hC hd => tame_1 4 (.int .i64 k) rfl (fun ρ hρ hf e0 => upon_is (by have hb0 := hk1; go_simp))) (by go_frame; rfl) (by simp only [List.nil_append, List.cons_append]; rfl) ?_
  refine walkT_is (wantedN rfl) (fun w' hC hd => tame_move _ (.inl rfl) rfl) (by go_frame; rfl) (by simp only [List.nil_append, List.cons_append]; rfl) ?_
  refine walkT_is (wantedT hops rfl rfl rfl rfl) (fun w' hC hd => tame_1 1 (.pointer (some ⟨w.heap.size, 0, none⟩)) rfl (fun ρ hρ hf e0 => upon_is (by go_simp))) (by go_frame; rfl) (by simp only [List.nil_append, List.cons_append]; rfl) ?_
  refine walkT_is (wantedT hops rfl rfl rfl rfl) (fun w' hC hd => tame_1 7 (.pointer (some ⟨w.heap.size, 0, none⟩)) rfl (fun ρ hρ hf e0 => upon_is (by have hc0 := c0 w' hC; go_simp))) (by go_frame; rfl) (by simp only [List.nil_append, List.cons_append]; rfl) ?_
  refine walkT_is (wantedT hops rfl rfl rfl rfl) (fun w' hC hd => tame_1 8 (.int .i64 k) rfl (fun ρ hρ hf e0 => upon_is (by have hb0 := hk2; go_simp))) (by go_frame; rfl) (by simp only [List.nil_append, List.cons_append]; rfl) ?_
  refine walkT_is (wantedN rfl) (fun w' hC hd => tame_pick _ _ _ true rfl rfl rfl) (by go_frame; rfl) (by simp only [List.nil_append, List.cons_append]; rfl) ?_
  refine walkT_is (wantedN rfl) (fun w' hC hd => tame_move _ (.inl rfl) rfl) (by go_frame; rfl) (by simp only [List.nil_append, List.cons_append]; rfl) ?_
  refine walkT_is (wantedT hops rfl rfl rfl rfl) (fun w' hC hd => tame_1 1 (.pointer (some ⟨w.heap.size, 0, none⟩)) rfl (fun ρ hρ hf e0 => upon_is (by have hc0 := c0 w' hC; have hc1 := c1 w' hC; have hc2 := c2 w' hC; have hc3 := c3 w' hC; have hc4 := c4 w' hC; go_simp))) (by go_frame; rfl) (by simp only [List.nil_append, List.cons_append]; rfl) ?_
  refine walkT_is (wantedT hops rfl rfl rfl rfl) (fun w' hC hd => tame_1 12 (opV k a b c v) rfl (fun ρ hρ hf e0 => upon_call_below (f := 16) (by go_simp) (HB w'))) (by go_frame; rfl) (by simp only [List.nil_append, List.cons_append]; rfl) ?_
  refine walkT_is (wantedT hops rfl rfl rfl rfl) (fun w' hC hd => tame_1 1 (.pointer (some ⟨w.heap.size, 0, none⟩)) rfl (fun ρ hρ hf e0 => upon_is (by have hc0 := c0 w' hC; have hc1 := c1 w' hC; have hc2 := c2 w' hC; have hc3 := c3 w' hC; have hc4 := c4 w' hC; go_simp))) (by go_frame; rfl) (by simp only [List.nil_append, List.cons_append]; rfl) ?_
  refine walkT_is (wantedT hops rfl rfl rfl rfl) (fun w' hC hd => tame_2 13 (opV k a b c' v') 14 (opV k a b c v) rfl rfl (fun ρ hρ hf e0 e1 => upon_is (by have hb0 := hne; have hb1 := hne2; have hb2 := hn3; have hb3 := hn4; go_simp))) (by go_frame; rfl) (by simp only [List.nil_append, List.cons_append]; rfl) ?_
  refine walkT_is (wantedN rfl) (fun w' hC hd => tame_pick _ _ _ true rfl rfl rfl) (by go_frame; rfl) (by simp only [List.nil_append, List.cons_append]; rfl) ?_
  refine walkT_is (wantedN rfl) (fun w' hC hd => tame_move _ (.inr rfl) rfl) (by go_frame; rfl) (by simp only [List.nil_append, List.cons_append]; rfl) ?_
  refine walkT_nil fun w6 hC6 _ => hK _ _ ?_
  have HB6 := Lib.hid (((Below.refl w.heap.size w).alloc (Nat.le_refl _) _).trans (hC6.mono (by simp)))
  clear c0 c1 c2 c3 c4 hC6
  go_wp2_with fail
  go_ret
  exact ⟨rfl, HB6.out⟩
set_option maxHeartbeats 1000000 in
theorem rPlain_4 (k a b c v a' b' c' v' : Int) (w : World) (hk1 : 1 ≤ k) (hk2 : k ≤ 10) (hne : (v == v') = false) (hne2 : (v' == v) = false) (hn3 : ¬ v = v') (hn4 : ¬ v' = v) (HB : ∀ w', Calls Tryd.prog 16 #[opV k a b c v] w' fun e w'' => e = .returned (opV k a b c v') ∧ Below w'.heap.size w' w'') : Calls Tryd.prog 14 #[opV k a b c v] w fun e w' => e = .returned (.bool false) ∧ Below w.heap.size w w' := by
  go_enter Tryd.func14, Tryd.ntmps14
  go_wp2_with fail
  have c0 := fun w' (hC : Below (w.alloc (.cells #[.int .i64 k, .int .i64 a, .int .i64 b, .int .i64 c, .int .u32 v] 31)).heap.size (w.alloc (.cells #[.int .i64 k, .int .i64 a, .int .i64 b, .int .i64 c, .int .u32 v] 31)) w') => (hC.cell (p := ⟨w.heap.size, 0, none⟩) (by simp)).trans (show _ = some (.int .i64 k) by go_simp)
  have c1 := fun w' (hC : Below (w.alloc (.cells #[.int .i64 k, .int .i64 a, .int .i64 b, .int .i64 c, .int .u32 v] 31)).heap.size (w.alloc (.cells #[.int .i64 k, .int .i64 a, .int .i64 b, .int .i64 c, .int .u32 v] 31)) w') => (hC.cell (p := ⟨w.heap.size, 1, none⟩) (by simp)).trans (show _ = some (.int .i64 a) by go_simp)
  have c2 := fun w' (hC : Below (w.alloc (.cells #[.int .i64 k, .int .i64 a, .int .i64 b, .int .i64 c, .int .u32 v] 31)).heap.size (w.alloc (.cells #[.int .i64 k, .int .i64 a, .int .i64 b, .int .i64 c, .int .u32 v] 31)) w') => (hC.cell (p := ⟨w.heap.size, 2, none⟩) (by simp)).trans (show _ = some (.int .i64 b) by go_simp)
  have c3 := fun w' (hC : Below (w.alloc (.cells #[.int .i64 k, .int .i64 a, .int .i64 b, .int .i64 c, .int .u32 v] 31)).heap.size (w.alloc (.cells #[.int .i64 k, .int .i64 a, .int .i64 b, .int .i64 c, .int .u32 v] 31)) w') => (hC.cell (p := ⟨w.heap.size, 3, none⟩) (by simp)).trans (show _ = some (.int .i64 c) by go_simp)
  have c4 := fun w' (hC : Below (w.alloc (.cells #[.int .i64 k, .int .i64 a, .int .i64 b, .int .i64 c, .int .u32 v] 31)).heap.size (w.alloc (.cells #[.int .i64 k, .int .i64 a, .int .i64 b, .int .i64 c, .int .u32 v] 31)) w') => (hC.cell (p := ⟨w.heap.size, 4, none⟩) (by simp)).trans (show _ = some (.int .u32 v) by go_simp)
  refine wp_region_tame_all [Fact.is (.pointer (some ⟨w.heap.size, 0, none⟩)), Fact.is (.int .i64 k), Fact.is (.bool true), Fact.is (.bool true), Fact.is (.pointer (some ⟨w.heap.size, 0, none⟩)), Fact.is (.int .i64 k), Fact.is (.bool true), Fact.is (.bool true), Fact.is (.bool true), Fact.is (opV k a b c v), Fact.is (opV k a b c v'), Fact.is (opV k a b c v), Fact.is (.bool false), Fact.is (.bool false), Fact.is (.bool false)] (by kernel_rfl) (by kernel_rfl) rfl (by kernel_rfl) (fun ops K2 hops hK => ?_)
  refine walkT_is (wantedN rfl) (fun w' hC hd => tame_1 1 (.pointer (some ⟨w.heap.size, 0, none⟩)) rfl (fun ρ hρ hf e0 => upon_is (by go_simp))) (by go_frame; rfl) (by simp only [List.nil_append, List.cons_append]; rfl) ?_
  refine walkT_is (wantedN rfl) (fun w' hC hd => tame_1 3 (.pointer (some ⟨w.heap.size, 0, none⟩)) rfl (fun ρ hρ hf e0 => upon_is (by have hc0 := c0 w' hC; go_simp))) (by go_frame; rfl) (by simp only [List.nil_append, List.cons_append]; rfl) ?_
  refine walkT_is (wantedN rfl) (fun w' hC hd => tame_1 4 (.int .i64 k) rfl (fun ρ hρ hf e0 => upon_is (by have hb0 := hk1; go_simp))) (by go_frame; rfl) (by simp only [List.nil_append, List.cons_append]; rfl) ?_
  refine walkT_is (wantedN rfl) (fun w' hC hd => tame_move _ (.inl rfl) rfl) (by go_frame; rfl) (by simp only [List.nil_append, List.cons_append]; rfl) ?_
  refine walkT_is (wantedT hops rfl rfl rfl rfl) (fun w' hC hd => tame_1 1 (.pointer (some ⟨w.heap.size, 0, none⟩)) rfl (fun ρ hρ hf e0 => upon_is (by go_simp))) (by go_frame; rfl) (by simp only [List.nil_append, List.cons_append]; rfl) ?_
  refine walkT_is (wantedT hops rfl rfl rfl rfl) (fun w' hC hd => tame_1 7 (.pointer (some ⟨w.heap.size, 0, none⟩)) rfl (fun ρ hρ hf e0 => upon_is (by have hc0 := c0 w' hC; go_simp))) (by go_frame; rfl) (by simp only [List.nil_append, List.cons_append]; rfl) ?_
  refine walkT_is (wantedT hops rfl rfl rfl rfl) (fun w' hC hd => tame_1 8 (.int .i64 k) rfl (fun ρ hρ hf e0 => upon_is (by have hb0 := hk2; go_simp))) (by go_frame; rfl) (by simp only [List.nil_append, List.cons_append]; rfl) ?_
  refine walkT_is (wantedN rfl) (fun w' hC hd => tame_pick _ _ _ true rfl rfl rfl) (by go_frame; rfl) (by simp only [List.nil_append, List.cons_append]; rfl) ?_
  refine walkT_is (wantedN rfl) (fun w' hC hd => tame_move _ (.inl rfl) rfl) (by go_frame; rfl) (by simp only [List.nil_append, List.cons_append]; rfl) ?_
  refine walkT_is (wantedT hops rfl rfl rfl rfl) (fun w' hC hd => tame_1 1 (.pointer (some ⟨w.heap.size, 0, none⟩)) rfl (fun ρ hρ hf e0 => upon_is (by have hc0 := c0 w' hC; have hc1 := c1 w' hC; have hc2 := c2 w' hC; have hc3 := c3 w' hC; have hc4 := c4 w' hC; go_simp))) (by go_frame; rfl) (by simp only [List.nil_append, List.cons_append]; rfl) ?_
  refine walkT_is (wantedT hops rfl rfl rfl rfl) (fun w' hC hd => tame_1 12 (opV k a b c v) rfl (fun ρ hρ hf e0 => upon_call_below (f := 16) (by go_simp) (HB w'))) (by go_frame; rfl) (by simp only [List.nil_append, List.cons_append]; rfl) ?_
  refine walkT_is (wantedT hops rfl rfl rfl rfl) (fun w' hC hd => tame_1 1 (.pointer (some ⟨w.heap.size, 0, none⟩)) rfl (fun ρ hρ hf e0 => upon_is (by have hc0 := c0 w' hC; have hc1 := c1 w' hC; have hc2 := c2 w' hC; have hc3 := c3 w' hC; have hc4 := c4 w' hC; go_simp))) (by go_frame; rfl) (by simp only [List.nil_append, List.cons_append]; rfl) ?_
  refine walkT_is (wantedT hops rfl rfl rfl rfl) (fun w' hC hd => tame_2 13 (opV k a b c v') 14 (opV k a b c v) rfl rfl (fun ρ hρ hf e0 e1 => upon_is (by have hb0 := hne; have hb1 := hne2; have hb2 := hn3; have hb3 := hn4; go_simp))) (by go_frame; rfl) (by simp only [List.nil_append, List.cons_append]; rfl) ?_
  refine walkT_is (wantedN rfl) (fun w' hC hd => tame_pick _ _ _ true rfl rfl rfl) (by go_frame; rfl) (by simp only [List.nil_append, List.cons_append]; rfl) ?_
  refine walkT_is (wantedN rfl) (fun w' hC hd => tame_move _ (.inr rfl) rfl) (by go_frame; rfl) (by simp only [List.nil_append, List.cons_append]; rfl) ?_
  refine walkT_nil fun w6 hC6 _ => hK _ _ ?_
  have HB6 := Lib.hid (((Below.refl w.heap.size w).alloc (Nat.le_refl _) _).trans (hC6.mono (by simp)))
  clear c0 c1 c2 c3 c4 hC6
  go_wp2_with fail
  go_ret
  exact ⟨rfl, HB6.out⟩
theorem rPlain_kind1 (k a b c v : Int) (w : World) (hk1 : ¬ 1 ≤ k) : Calls Tryd.prog 14 #[opV k a b c v] w fun e w' => e = .returned (.bool false) ∧ Below w.heap.size w w' := by
  go_enter Tryd.func14, Tryd.ntmps14
  go_wp2_with fail
  have c0 := fun w' (hC : Below (w.alloc (.cells #[.int .i64 k, .int .i64 a, .int .i64 b, .int .i64 c, .int .u32 v] 31)).heap.size (w.alloc (.cells #[.int .i64 k, .int .i64 a, .int .i64 b, .int .i64 c, .int .u32 v] 31)) w') => (hC.cell (p := ⟨w.heap.size, 0, none⟩) (by simp)).trans (show _ = some (.int .i64 k) by go_simp)
  have c1 := fun w' (hC : Below (w.alloc (.cells #[.int .i64 k, .int .i64 a, .int .i64 b, .int .i64 c, .int .u32 v] 31)).heap.size (w.alloc (.cells #[.int .i64 k, .int .i64 a, .int .i64 b, .int .i64 c, .int .u32 v] 31)) w') => (hC.cell (p := ⟨w.heap.size, 1, none⟩) (by simp)).trans (show _ = some (.int .i64 a) by go_simp)
  have c2 := fun w' (hC : Below (w.alloc (.cells #[.int .i64 k, .int .i64 a, .int .i64 b, .int .i64 c, .int .u32 v] 31)).heap.size (w.alloc (.cells #[.int .i64 k, .int .i64 a, .int .i64 b, .int .i64 c, .int .u32 v] 31)) w') => (hC.cell (p := ⟨w.heap.size, 2, none⟩) (by simp)).trans (show _ = some (.int .i64 b) by go_simp)
  have c3 := fun w' (hC : Below (w.alloc (.cells #[.int .i64 k, .int .i64 a, .int .i64 b, .int .i64 c, .int .u32 v] 31)).heap.size (w.alloc (.cells #[.int .i64 k, .int .i64 a, .int .i64 b, .int .i64 c, .int .u32 v] 31)) w') => (hC.cell (p := ⟨w.heap.size, 3, none⟩) (by simp)).trans (show _ = some (.int .i64 c) by go_simp)
  have c4 := fun w' (hC : Below (w.alloc (.cells #[.int .i64 k, .int .i64 a, .int .i64 b, .int .i64 c, .int .u32 v] 31)).heap.size (w.alloc (.cells #[.int .i64 k, .int .i64 a, .int .i64 b, .int .i64 c, .int .u32 v] 31)) w') => (hC.cell (p := ⟨w.heap.size, 4, none⟩) (by simp)).trans (show _ = some (.int .u32 v) by go_simp)
  refine wp_region_tame_all [Fact.is (.pointer (some ⟨w.heap.size, 0, none⟩)), Fact.is (.int .i64 k), Fact.is (.bool false), Fact.is (.bool false), Fact.is undef, Fact.is undef, Fact.is undef, Fact.is (.bool false), Fact.is (.bool false), Fact.is undef, Fact.is undef, Fact.is undef, Fact.is undef, Fact.is (.bool false), Fact.is (.bool false)] (by kernel_rfl) (by kernel_rfl) rfl (by kernel_rfl) (fun ops K2 hops hK => ?_)
  refine walkT_is (wantedN rfl) (fun w' hC hd => tame_1 1 (.pointer (some ⟨w.heap.size, 0, none⟩)) rfl (fun ρ hρ hf e0 => upon_is (by go_simp))) (by go_frame; rfl) (by simp only [List.nil_append, List.cons_append]; rfl) ?_
  refine walkT_is (wantedN rfl) (fun w' hC hd => tame_1 3 (.pointer (some ⟨w.heap.size, 0, none⟩)) rfl (fun ρ hρ hf e0 => upon_is (by have hc0 := c0 w' hC; go_simp))) (by go_frame; rfl) (by simp only [List.nil_append, List.cons_append]; rfl) ?_
  refine walkT_is (wantedN rfl) (fun w' hC hd => tame_1 4 (.int .i64 k) rfl (fun ρ hρ hf e0 => upon_is (by have hb0 := hk1; go_simp))) (by go_frame; rfl) (by simp only [List.nil_append, List.cons_append]; rfl) ?_
  refine walkT_is (wantedN rfl) (fun w' hC hd => tame_move _ (.inl rfl) rfl) (by go_frame; rfl) (by simp only [List.nil_append, List.cons_append]; rfl) ?_
  refine walkT_skip (wantedF hops rfl rfl rfl rfl) (by go_frame; rfl) (by simp only [List.nil_append, List.cons_append]; rfl) ?_
  refine walkT_skip (wantedF hops rfl rfl rfl rfl) (by go_frame; rfl) (by simp only [List.nil_append, List.cons_append]; rfl) ?_
  refine walkT_skip (wantedF hops rfl rfl rfl rfl) (by go_frame; rfl) (by simp only [List.nil_append, List.cons_append]; rfl) ?_
  refine walkT_is (wantedN rfl) (fun w' hC hd => tame_pick _ _ _ false rfl rfl rfl) (by go_frame; rfl) (by simp only [List.nil_append, List.cons_append]; rfl) ?_
  refine walkT_is (wantedN rfl) (fun w' hC hd => tame_move _ (.inl rfl) rfl) (by go_frame; rfl) (by simp only [List.nil_append, List.cons_append]; rfl) ?_
  refine walkT_skip (wantedF hops rfl rfl rfl rfl) (by go_frame; rfl) (by simp only [List.nil_append, List.cons_append]; rfl) ?_
  refine walkT_skip (wantedF hops rfl rfl rfl rfl) (by go_frame; rfl) (by simp only [List.nil_append, List.cons_append]; rfl) ?_
  refine walkT_skip (wantedF hops rfl rfl rfl rfl) (by go_frame; rfl) (by simp only [List.nil_append, List.cons_append]; rfl) ?_
  refine walkT_skip (wantedF hops rfl rfl rfl rfl) (by go_frame; rfl) (by simp only [List.nil_append, List.cons_append]; rfl) ?_
  refine walkT_is (wantedN rfl) (fun w' hC hd => tame_pick _ _ _ false rfl rfl rfl) (by go_frame; rfl) (by simp only [List.nil_append, List.cons_append]; rfl) ?_
  refine walkT_is (wantedN rfl) (fun w' hC hd => tame_move _ (.inr rfl) rfl) (by go_frame; rfl) (by simp only [List.nil_append, List.cons_append]; rfl) ?_
  refine walkT_nil fun w6 hC6 _ => hK _ _ ?_
  have HB6 := Lib.hid (((Below.refl w.heap.size w).alloc (Nat.le_refl _) _).trans (hC6.mono (by simp)))
  clear c0 c1 c2 c3 c4 hC6
  go_wp2_with fail
  go_ret
  exact ⟨rfl, HB6.out⟩
theorem rPlain_kind2 (k a b c v : Int) (w : World) (hk1 : 1 ≤ k) (hk2 : ¬ k ≤ 10) : Calls Tryd.prog 14 #[opV k a b c v] w fun e w' => e = .returned (.bool false) ∧ Below w.heap.size w w' := by
  go_enter Tryd.func14, Tryd.ntmps14
  go_wp2_with fail
  have c0 := fun w' (hC : Below (w.alloc (.cells #[.int .i64 k, .int .i64 a, .int .i64 b, .int .i64 c, .int .u32 v] 31)).heap.size (w.alloc (.cells #[.int .i64 k, .int .i64 a, .int .i64 b, .int .i64 c, .int .u32 v] 31)) w') => (hC.cell (p := ⟨w.heap.size, 0, none⟩) (by simp)).trans (show _ = some (.int .i64 k) by go_simp)
  have c1 := fun w' (hC : Below (w.alloc (.cells #[.int .i64 k, .int .i64 a, .int .i64 b, .int .i64 c, .int .u32 v] 31)).heap.size (w.alloc (.cells #[.int .i64 k, .int .i64 a, .int .i64 b, .int .i64 c, .int .u32 v] 31)) w') => (hC.cell (p := ⟨w.heap.size, 1, none⟩) (by simp)).trans (show _ = some (.int .i64 a) by go_simp)
  have c2 := fun w' (hC : Below (w.alloc (.cells #[.int .i64 k, .int .i64 a, .int .i64 b, .int .i64 c, .int .u32 v] 31)).heap.size (w.alloc (.cells #[.int .i64 k, .int .i64 a, .int .i64 b, .int .i64 c, .int .u32 v] 31)) w') => (hC.cell (p := ⟨w.heap.size, 2, none⟩) (by simp)).trans (show _ = some (.int .i64 b) by go_simp)
  have c3 := fun w' (hC : Below (w.alloc (.cells #[.int .i64 k, .int .i64 a, .int .i64 b, .int .i64 c, .int .u32 v] 31)).heap.size (w.alloc (.cells #[.int .i64 k, .int .i64 a, .int .i64 b, .int .i64 c, .int .u32 v] 31)) w') => (hC.cell (p := ⟨w.heap.size, 3, none⟩) (by simp)).trans (show _ = some (.int .i64 c) by go_simp)
  have c4 := fun w' (hC : Below (w.alloc (.cells #[.int .i64 k, .int .i64 a, .int .i64 b, .int .i64 c, .int .u32 v] 31)).heap.size (w.alloc (.cells #[.int .i64 k, .int .i64 a, .int .i64 b, .int .i64 c, .int .u32 v] 31)) w') => (hC.cell (p := ⟨w.heap.size, 4, none⟩) (by simp)).trans (show _ = some (.int .u32 v) by go_simp)
  refine wp_region_tame_all [Fact.is (.pointer (some ⟨w.heap.size, 0, none⟩)), Fact.is (.int .i64 k), Fact.is (.bool true), Fact.is (.bool true), Fact.is (.pointer (some ⟨w.heap.size, 0, none⟩)), Fact.is (.int .i64 k), Fact.is (.bool false), Fact.is (.bool false), Fact.is (.bool false), Fact.is undef, Fact.is undef, Fact.is undef, Fact.is undef, Fact.is (.bool false), Fact.is (.bool false)] (by kernel_rfl) (by kernel_rfl) rfl (by kernel_rfl) (fun ops K2 hops hK => ?_)
  refine walkT_is (wantedN rfl) (fun w' hC hd => tame_1 1 (.pointer (some ⟨w.heap.size, 0, none⟩)) rfl (fun ρ hρ hf e0 => upon_is (by go_simp))) (by go_frame; rfl) (by simp only [List.nil_append, List.cons_append]; rfl) ?_
  refine walkT_is (wantedN rfl) (fun w' hC hd => tame_1 3 (.pointer (some ⟨w.heap.size, 0, none⟩)) rfl (fun ρ hρ hf e0 => upon_is (by have hc0 := c0 w' hC; go_simp))) (by go_frame; rfl) (by simp only [List.nil_append, List.cons_append]; rfl) ?_
  refine walkT_is (wantedN rfl) (fun w' hC hd => tame_1 4 (.int .i64 k) rfl (fun ρ hρ hf e0 => upon_is (by have hb0 := hk1; go_simp))) (by go_frame; rfl) (by simp only [List.nil_append, List.cons_append]; rfl) ?_
  refine walkT_is (wantedN rfl) (fun w' hC hd => tame_move _ (.inl rfl) rfl) (by go_frame; rfl) (by simp only [List.nil_append, List.cons_append]; rfl) ?_
  refine walkT_is (wantedT hops rfl rfl rfl rfl) (fun w' hC hd => tame_1 1 (.pointer (some ⟨w.heap.size, 0, none⟩)) rfl (fun ρ hρ hf e0 => upon_is (by go_simp))) (by go_frame; rfl) (by simp only [List.nil_append, List.cons_append]; rfl) ?_
  refine walkT_is (wantedT hops rfl rfl rfl rfl) (fun w' hC hd => tame_1 7 (.pointer (some ⟨w.heap.size, 0, none⟩)) rfl (fun ρ hρ hf e0 => upon_is (by have hc0 := c0 w' hC; go_simp))) (by go_frame; rfl) (by simp only [List.nil_append, List.cons_append]; rfl) ?_
  refine walkT_is (wantedT hops rfl rfl rfl rfl) (fun w' hC hd => tame_1 8 (.int .i64 k) rfl (fun ρ hρ hf e0 => upon_is (by have hb0 := hk2; go_simp))) (by go_frame; rfl) (by simp only [List.nil_append, List.cons_append]; rfl) ?_
  refine walkT_is (wantedN rfl) (fun w' hC hd => tame_pick _ _ _ true rfl rfl rfl) (by go_frame; rfl) (by simp only [List.nil_append, List.cons_append]; rfl) ?_
  refine walkT_is (wantedN rfl) (fun w' hC hd => tame_move _ (.inl rfl) rfl) (by go_frame; rfl) (by simp only [List.nil_append, List.cons_append]; rfl) ?_
  refine walkT_skip (wantedF hops rfl rfl rfl rfl) (by go_frame; rfl) (by simp only [List.nil_append, List.cons_append]; rfl) ?_
  refine walkT_skip (wantedF hops rfl rfl rfl rfl) (by go_frame; rfl) (by simp only [List.nil_append, List.cons_append]; rfl) ?_
  refine walkT_skip (wantedF hops rfl rfl rfl rfl) (by go_frame; rfl) (by simp only [List.nil_append, List.cons_append]; rfl) ?_
  refine walkT_skip (wantedF hops rfl rfl rfl rfl) (by go_frame; rfl) (by simp only [List.nil_append, List.cons_append]; rfl) ?_
  refine walkT_is (wantedN rfl) (fun w' hC hd => tame_pick _ _ _ false rfl rfl rfl) (by go_frame; rfl) (by simp only [List.nil_append, List.cons_append]; rfl) ?_
  refine walkT_is (wantedN rfl) (fun w' hC hd => tame_move _ (.inr rfl) rfl) (by go_frame; rfl) (by simp only [List.nil_append, List.cons_append]; rfl) ?_
  refine walkT_nil fun w6 hC6 _ => hK _ _ ?_
  have HB6 := Lib.hid (((Below.refl w.heap.size w).alloc (Nat.le_refl _) _).trans (hC6.mono (by simp)))
  clear c0 c1 c2 c3 c4 hC6
  go_wp2_with fail
  go_ret
  exact ⟨rfl, HB6.out⟩
theorem oPlain_any (k a b c v : Int) (w : World) : Calls Tryd.prog 13 #[opV k a b c v] w fun e w' => e = .returned (.bool (plainB k a b c v)) ∧ Below w.heap.size w w' := by
  cases hk : opK k with
  | false =>
    have e : plainB k a b c v = false := by unfold plainB; rw [hk]; rfl
    rw [e]
    exact oPlain_kind k a b c v w hk
  | true =>
    have h12 : 1 ≤ k ∧ k ≤ 10 := by simpa [opK] using hk
    have HB : ∀ w', Calls Tryd.prog 15 #[opV k a b c v] w' fun e w'' => e = .returned (opV k (bareA k a) (bareB k b) (bareC k c) (bareV k v)) ∧ Below w'.heap.size w' w'' := fun w' => by
      have := oBare_any k a b c v w'
      unfold bareOp at this
      rw [show bareK k = k by unfold bareK; rw [hk]; rfl] at this
      exact this
    have ep : plainB k a b c v = decide (a = bareA k a ∧ b = bareB k b ∧ c = bareC k c ∧ v = bareV k v) := by unfold plainB; rw [hk]; rfl
    by_cases ha : a = bareA k a
    · by_cases hb : b = bareB k b
      · by_cases hc : c = bareC k c
        · by_cases hv : v = bareV k v
          · rw [ep, decide_eq_true ⟨ha, hb, hc, hv⟩]
            rw [← ha, ← hb, ← hc, ← hv] at HB
            exact oPlain_0 k a b c v a b c v w (fun w' => by have := oIsKind_any k w'; rw [show decide (1 ≤ k ∧ k ≤ 10) = true from hk] at this; exact this) HB
          · rw [ep, decide_eq_false (fun h => hv h.2.2.2)]
            rw [← ha, ← hb, ← hc] at HB
            exact oPlain_4 k a b c v a b c _ w (fun w' => by have := oIsKind_any k w'; rw [show decide (1 ≤ k ∧ k ≤ 10) = true from hk] at this; exact this) (by simpa using hv) (by simpa using Ne.symm hv) hv (Ne.symm hv) HB
        · rw [ep, decide_eq_false (fun h => hc h.2.2.1)]
          rw [← ha, ← hb] at HB
          exact oPlain_3 k a b c v a b _ _ w (fun w' => by have := oIsKind_any k w'; rw [show decide (1 ≤ k ∧ k ≤ 10) = true from hk] at this; exact this) (by simpa using hc) (by simpa using Ne.symm hc) hc (Ne.symm hc) HB
      · rw [ep, decide_eq_false (fun h => hb h.2.1)]
        rw [← ha] at HB
        exact oPlain_2 k a b c v a _ _ _ w (fun w' => by have := oIsKind_any k w'; rw [show decide (1 ≤ k ∧ k ≤ 10) = true from hk] at this; exact this) (by simpa using hb) (by simpa using Ne.symm hb) hb (Ne.symm hb) HB
    · rw [ep, decide_eq_false (fun h => ha h.1)]
      exact oPlain_1 k a b c v _ _ _ _ w (fun w' => by have := oIsKind_any k w'; rw [show decide (1 ≤ k ∧ k ≤ 10) = true from hk] at this; exact this) (by simpa using ha) (by simpa using Ne.symm ha) ha (Ne.symm ha) HB
theorem rPlain_any (k a b c v : Int) (w : World) : Calls Tryd.prog 14 #[opV k a b c v] w fun e w' => e = .returned (.bool (plainB k a b c v)) ∧ Below w.heap.size w w' := by
  cases hk : opK k with
  | false =>
    have e : plainB k a b c v = false := by unfold plainB; rw [hk]; rfl
    rw [e]
    by_cases h1 : 1 ≤ k
    · exact rPlain_kind2 k a b c v w h1 (fun h2 => by simp [opK, h1, h2] at hk)
    · exact rPlain_kind1 k a b c v w h1
  | true =>
    have h12 : 1 ≤ k ∧ k ≤ 10 := by simpa [opK] using hk
    have HB : ∀ w', Calls Tryd.prog 16 #[opV k a b c v] w' fun e w'' => e = .returned (opV k (bareA k a) (bareB k b) (bareC k c) (bareV k v)) ∧ Below w'.heap.size w' w'' := fun w' => by
      have := rBare_any k a b c v w'
      unfold bareOp at this
      rw [show bareK k = k by unfold bareK; rw [hk]; rfl] at this
      exact this
    have ep : plainB k a b c v = decide (a = bareA k a ∧ b = bareB k b ∧ c = bareC k c ∧ v = bareV k v) := by unfold plainB; rw [hk]; rfl
    by_cases ha : a = bareA k a
    · by_cases hb : b = bareB k b
      · by_cases hc : c = bareC k c
        · by_cases hv : v = bareV k v
          · rw [ep, decide_eq_true ⟨ha, hb, hc, hv⟩]
            rw [← ha, ← hb, ← hc, ← hv] at HB
            exact rPlain_0 k a b c v a b c v w h12.1 h12.2 HB
          · rw [ep, decide_eq_false (fun h => hv h.2.2.2)]
            rw [← ha, ← hb, ← hc] at HB
            exact rPlain_4 k a b c v a b c _ w h12.1 h12.2 (by simpa using hv) (by simpa using Ne.symm hv) hv (Ne.symm hv) HB
        · rw [ep, decide_eq_false (fun h => hc h.2.2.1)]
          rw [← ha, ← hb] at HB
          exact rPlain_3 k a b c v a b _ _ w h12.1 h12.2 (by simpa using hc) (by simpa using Ne.symm hc) hc (Ne.symm hc) HB
      · rw [ep, decide_eq_false (fun h => hb h.2.1)]
        rw [← ha] at HB
        exact rPlain_2 k a b c v a _ _ _ w h12.1 h12.2 (by simpa using hb) (by simpa using Ne.symm hb) hb (Ne.symm hb) HB
    · rw [ep, decide_eq_false (fun h => ha h.1)]
      exact rPlain_1 k a b c v _ _ _ _ w h12.1 h12.2 (by simpa using ha) (by simpa using Ne.symm ha) ha (Ne.symm ha) HB
end Go.Proofs.YtlgkgijgnmancaaDoor.Pk

/-
  Package op: kinds of names; the chapter's example.
-/
namespace Go.Proofs.YtlgkgijgnmancaaDoor.Pk
open Go.RowKit
set_option linter.unusedVariables false
set_option linter.unusedSimpArgs false
set_option maxRecDepth 100000

theorem nm_ix0 (w : World) : (Instr.index 70 (.agg #[.string (opS 0), .string (opS 1), .string (opS 2), .string (opS 3), .string (opS 4), .string (opS 5), .string (opS 6), .string (opS 7), .string (opS 8), .string (opS 9)]) (.int .i64 ((0 : Nat) : Int))).run Tryd.prog w = .ok (.string (opS 0)) w := by kernel_rfl
theorem nm_ix1 (w : World) : (Instr.index 70 (.agg #[.string (opS 0), .string (opS 1), .string (opS 2), .string (opS 3), .string (opS 4), .string (opS 5), .string (opS 6), .string (opS 7), .string (opS 8), .string (opS 9)]) (.int .i64 ((1 : Nat) : Int))).run Tryd.prog w = .ok (.string (opS 1)) w := by kernel_rfl
theorem nm_ix2 (w : World) : (Instr.index 70 (.agg #[.string (opS 0), .string (opS 1), .string (opS 2), .string (opS 3), .string (opS 4), .string (opS 5), .string (opS 6), .string (opS 7), .string (opS 8), .string (opS 9)]) (.int .i64 ((2 : Nat) : Int))).run Tryd.prog w = .ok (.string (opS 2)) w := by kernel_rfl
theorem nm_ix3 (w : World) : (Instr.index 70 (.agg #[.string (opS 0), .string (opS 1), .string (opS 2), .string (opS 3), .string (opS 4), .string (opS 5), .string (opS 6), .string (opS 7), .string (opS 8), .string (opS 9)]) (.int .i64 ((3 : Nat) : Int))).run Tryd.prog w = .ok (.string (opS 3)) w := by kernel_rfl
theorem nm_ix4 (w : World) : (Instr.index 70 (.agg #[.string (opS 0), .string (opS 1), .string (opS 2), .string (opS 3), .string (opS 4), .string (opS 5), .string (opS 6), .string (opS 7), .string (opS 8), .string (opS 9)]) (.int .i64 ((4 : Nat) : Int))).run Tryd.prog w = .ok (.string (opS 4)) w := by kernel_rfl
theorem nm_ix5 (w : World) : (Instr.index 70 (.agg #[.string (opS 0), .string (opS 1), .string (opS 2), .string (opS 3), .string (opS 4), .string (opS 5), .string (opS 6), .string (opS 7), .string (opS 8), .string (opS 9)]) (.int .i64 ((5 : Nat) : Int))).run Tryd.prog w = .ok (.string (opS 5)) w := by kernel_rfl
theorem nm_ix6 (w : World) : (Instr.index 70 (.agg #[.string (opS 0), .string (opS 1), .string (opS 2), .string (opS 3), .string (opS 4), .string (opS 5), .string (opS 6), .string (opS 7), .string (opS 8), .string (opS 9)]) (.int .i64 ((6 : Nat) : Int))).run Tryd.prog w = .ok (.string (opS 6)) w := by kernel_rfl
theorem nm_ix7 (w : World) : (Instr.index 70 (.agg #[.string (opS 0), .string (opS 1), .string (opS 2), .string (opS 3), .string (opS 4), .string (opS 5), .string (opS 6), .string (opS 7), .string (opS 8), .string (opS 9)]) (.int .i64 ((7 : Nat) : Int))).run Tryd.prog w = .ok (.string (opS 7)) w := by kernel_rfl
theorem nm_ix8 (w : World) : (Instr.index 70 (.agg #[.string (opS 0), .string (opS 1), .string (opS 2), .string (opS 3), .string (opS 4), .string (opS 5), .string (opS 6), .string (opS 7), .string (opS 8), .string (opS 9)]) (.int .i64 ((8 : Nat) : Int))).run Tryd.prog w = .ok (.string (opS 8)) w := by kernel_rfl
theorem nm_ix9 (w : World) : (Instr.index 70 (.agg #[.string (opS 0), .string (opS 1), .string (opS 2), .string (opS 3), .string (opS 4), .string (opS 5), .string (opS 6), .string (opS 7), .string (opS 8), .string (opS 9)]) (.int .i64 ((9 : Nat) : Int))).run Tryd.prog w = .ok (.string (opS 9)) w := by kernel_rfl
theorem nm_ix (k : Nat) (w : World) (hk : k < 10) : (Instr.index 70 (.agg #[.string (opS 0), .string (opS 1), .string (opS 2), .string (opS 3), .string (opS 4), .string (opS 5), .string (opS 6), .string (opS 7), .string (opS 8), .string (opS 9)]) (.int .i64 (k : Int))).run Tryd.prog w = .ok (.string (opS k)) w := by
  have : k = 0 ∨ k = 1 ∨ k = 2 ∨ k = 3 ∨ k = 4 ∨ k = 5 ∨ k = 6 ∨ k = 7 ∨ k = 8 ∨ k = 9 := by omega
  rcases this with rfl | rfl | rfl | rfl | rfl | rfl | rfl | rfl | rfl | rfl
  · exact nm_ix0 w
  · exact nm_ix1 w
  · exact nm_ix2 w
  · exact nm_ix3 w
  · exact nm_ix4 w
  · exact nm_ix5 w
  · exact nm_ix6 w
  · exact nm_ix7 w
  · exact nm_ix8 w
  · exact nm_ix9 w
set_option maxHeartbeats 1000000 in
theorem oKind_any (s : ByteArray) (w : World) (hN : NamesAt w) :
    Calls Tryd.prog 9 #[.string s] w fun e w' => e = .returned (.tuple #[.int .i64 (opKI s 10), .bool (opKB s 10)]) ∧ w = w' := by
  have c0 := hN.at_ 0 (by decide)
  have c1 := hN.at_ 1 (by decide)
  have c2 := hN.at_ 2 (by decide)
  have c3 := hN.at_ 3 (by decide)
  have c4 := hN.at_ 4 (by decide)
  have c5 := hN.at_ 5 (by decide)
  have c6 := hN.at_ 6 (by decide)
  have c7 := hN.at_ 7 (by decide)
  have c8 := hN.at_ 8 (by decide)
  have c9 := hN.at_ 9 (by decide)
  go_enter Tryd.func9, Tryd.ntmps9
  go_wp2_with fail
  clear c0 c1 c2 c3 c4 c5 c6 c7 c8 c9
  go_loopw [7] (fun i wr => ∃ k : Nat, k ≤ 10 ∧ i = .int .i64 (k : Int) ∧ w = wr ∧ ∀ j, j < k → opNm j s = false) (fun i _ => 10 - (intOf i).toNat)
  case atStart => exact ⟨0, by omega, rfl, rfl, fun j hj => absurd hj (by omega)⟩
  case round =>
    obtain ⟨k, hk, rfl, rfl, hno⟩ := hrel
    by_cases hlt : k < 10
    · have hix := fun w => nm_ix k w hlt
      have hw1 : IntKind.i64.wrap (1 + (k : Int)) = (k : Int) + 1 := by rw [IntWalk.i64_in _ (by omega)]; omega
      have HNo := Lib.hid hno
      have HYes : Hid (opNm k s = true → opKI s 10 = (k : Int) + 1 ∧ opKB s 10 = true) := Lib.hid (fun h => by
        have := opLast_of h hlt 10 (by omega)
        rw [if_pos hlt] at this
        unfold opKI opKB
        rw [this]
        exact ⟨rfl, rfl⟩)
      have HNext : Hid (opNm k s = false → ∀ j, j < k + 1 → opNm j s = false) := Lib.hid (fun h j hj => by
        by_cases e : j = k
        · rw [e]; exact h
        · exact hno j (by omega))
      clear hno
      cases hq : opNm k s with
      | true =>
        obtain ⟨e1, e2⟩ := HYes.out hq
        clear HYes HNext HNo
        have HE1 := Lib.hid e1
        have HE2 := Lib.hid e2
        clear e1 e2
        unfold opNm at hq
        go_wp2_with fail
        go_ret2
        exact ⟨by rw [HE1.out, HE2.out]; rfl, rfl⟩
      | false =>
        have HN2 := Lib.hid (HNext.out hq)
        clear HYes HNext HNo
        unfold opNm at hq
        go_wp2_with fail
        go_roundw
        case rel => exact ⟨k + 1, by omega, by go_num, by first | rfl | trivial, HN2.out⟩
        case measure => simp [intOf]; omega
    · obtain rfl : k = 10 := by omega
      have e := opLast_no 10 hno
      have HE : Hid (opKI s 10 = 0 ∧ opKB s 10 = false) := Lib.hid (by unfold opKI opKB; rw [e]; exact ⟨rfl, rfl⟩)
      clear hno e
      go_wp2_with fail
      go_ret2
      exact ⟨by rw [HE.out.1, HE.out.2]; rfl, rfl⟩

theorem oName_3 (w : World) (hN : NamesAt w) : Calls Tryd.prog 12 #[.int .i64 3] w fun e w' => e = .returned (.string ⟨#[115, 116, 111, 114, 101]⟩) ∧ w = w' := oName_yes 2 w (by decide) hN
theorem oPlain_ex (w : World) : Calls Tryd.prog 13 #[opV 3 1 0 2 0] w fun e w' => e = .returned (.bool true) ∧ Below w.heap.size w w' := oPlain_any 3 1 0 2 0 w
theorem oSlots_ex (w : World) : Calls Tryd.prog 18 #[opV 3 1 0 2 0] w fun e w' => ∃ a cap, e = .returned (.slice a 2 cap) ∧ Row w' .i64 a [1, 2] ∧ Below w.heap.size w w' :=
  (oSlots_3 1 0 2 0 w).mono (fun e w' ⟨a, cap, h1, h2, h3, h4⟩ => ⟨a, cap, h1, h2, h4⟩)
/-- Which answer is the first one with that error, of two. -/
theorem oFirst_two (w : World) : Calls Tryd.prog 40 #[.slice (some ⟨w.heap.size, 0, none⟩) 2 2, .int .i64 6] (w.alloc (.cells #[.int .i64 0, .int .i64 0, .int .i64 0, .int .u32 0, .int .i64 6, .int .i64 0, .int .i64 0, .int .u32 0] 49)) fun e w' => e = .returned (.int .i64 1) ∧ Below w.heap.size (w.alloc (.cells #[.int .i64 0, .int .i64 0, .int .i64 0, .int .u32 0, .int .i64 6, .int .i64 0, .int .i64 0, .int .u32 0] 49)) w' := by
  go_enter Tryd.func40, Tryd.ntmps40
  go_wp2_with fail
  refine wp_loop_rounds 3 ?_
  rw [rounds_succ]
  go_wp2_with fail
  rw [rounds_succ]
  go_wp2_with fail
  go_ret
  exact ⟨rfl, by repeat (first | exact Below.refl _ _ | refine Below.setCell ?_ (by first | (simp; done) | (simp; omega)) _ | refine Below.alloc ?_ (by first | (simp; done) | (simp; omega)) _)⟩
set_option maxHeartbeats 1000000 in
theorem begun22_any (w : World) (hN : NamesAt w) : Calls Tryd.prog 11 #[] w fun e w' => e = .returned (.bool true) ∧ Below w.heap.size w w' := by
  have HN := Lib.hid (hN.alloc (.cells #[.int .i64 3, .int .i64 1, .int .i64 0, .int .i64 2, .int .u32 0] 31))
  clear hN
  go_enter Tryd.func11, Tryd.ntmps11
  go_wp2_with fail
  refine (oName_3 _ HN.out).mono ?_
  rintro e w1 ⟨rfl, rfl⟩
  go_wp2_with fail
  refine (oSlots_ex _).mono ?_
  rintro e w2 ⟨a, cap, rfl, hr, hb⟩
  have HR := Lib.hid hr
  have HL := Lib.hid ((Blk.new w #[.int .i64 3, .int .i64 1, .int .i64 0, .int .i64 2, .int .u32 0] 31).later hb)
  have HB := Lib.hid (((Below.refl w.heap.size w).alloc (Nat.le_refl _) (.cells #[.int .i64 3, .int .i64 1, .int .i64 0, .int .i64 2, .int .u32 0] 31)).trans (hb.mono (by simp)))
  clear hr hb HN
  go_wp2_with fail
  refine (rcInts_same _ _ _ _ [1, 2] _ (HR.out.later ((Below.refl _ _).alloc (Nat.le_refl _) _)) (row_alloc _ [1, 2] _ rfl rfl) (by decide)).mono ?_
  rintro e w3 ⟨rfl, hd⟩
  have HB3 := Lib.hid (below_step (HB.out.alloc HB.out.size (.cells #[.int .i64 1, .int .i64 2] 3)) hd.new)
  have HL3 := Lib.hid ((HL.out.alloc (.cells #[.int .i64 1, .int .i64 2] 3)).later hd.new)
  clear hd HR HL HB
  have c0 := HL3.out.cell 0 rfl
  have c1 := HL3.out.cell 1 rfl
  have c2 := HL3.out.cell 2 rfl
  have c3 := HL3.out.cell 3 rfl
  have c4 := HL3.out.cell 4 rfl
  have hz : w.heap.size < w3.heap.size := HL3.out.lt
  go_wp2_with fail
  refine (oPlain_ex _).mono ?_
  rintro e w4 ⟨rfl, hb⟩
  have HB4 := Lib.hid (below_step HB3.out hb)
  clear c0 c1 c2 c3 c4 hb HL3 HB3 hz
  go_wp2_with fail
  refine (oFirst_two _).mono ?_
  rintro e w5 ⟨rfl, hb⟩
  have HB5 := Lib.hid ((HB4.out.alloc HB4.out.size (.cells #[.int .i64 0, .int .i64 0, .int .i64 0, .int .u32 0, .int .i64 6, .int .i64 0, .int .i64 0, .int .u32 0] 49)).trans (hb.mono (by have := HB4.out.size; simp; omega)))
  clear hb HB4
  go_wp2_with fail
  go_ret
  exact ⟨rfl, HB5.out⟩
end Go.Proofs.YtlgkgijgnmancaaDoor.Pk
