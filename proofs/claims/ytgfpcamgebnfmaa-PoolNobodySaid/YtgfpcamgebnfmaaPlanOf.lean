/-
  What plan.Of returns.
-/
import Derived.Test.YtgfpcamgebnfmaaPlan
import Derived.Test.YtgfpcamgebnfmaaTame
import Derived.Outline
import Derived.Lib.SmallJoins
namespace Go.Proofs.Ytgfpcamgebnfmaa.Pk
open Go.RowKit
set_option linter.unusedVariables false
set_option linter.unusedSimpArgs false

set_option maxHeartbeats 400000 in
theorem of_no (N W R K : Int) (w : World) (h : mayB N W R K = false) :
    Calls Try.prog 19 #[.agg #[.int .i64 N, .int .i64 W, .int .i64 R, .int .i64 K]] w fun e w' => e = .returned (.tuple #[.agg #[.int .i64 0, .int .i64 0, .int .i64 0, .int .i64 0, .int .i64 0, .int .i64 0, .int .i64 0, .int .i64 0], .int .i64 1]) ∧ Below w.heap.size w w' := by
  have HX := Lib.hid h
  clear h
  go_enter Try.func19, Try.ntmps19
  go_wp2_with fail
  refine (check_no _ _ _ _ _ HX.out).mono ?_
  rintro e w1 ⟨rfl, hb⟩
  obtain ⟨hc, hf⟩ := bcell hb
  have hz : w.heap.size + 1 < w1.heap.size := by have := hb.size; simp at this; omega
  have HB := Lib.hid hb
  clear hb
  go_wp2_with fail
  exact bodyPost_ret (v := .tuple #[.agg #[.int .i64 0, .int .i64 0, .int .i64 0, .int .i64 0, .int .i64 0, .int .i64 0, .int .i64 0, .int .i64 0], .int .i64 1]) (by simp [results, Try.results19, go_sem, hc, hz]) rfl ⟨rfl, by
    repeat refine Below.setCell ?_ (by simp) _
    exact ((below_new w _).alloc (by simp) _).trans (HB.out.mono (by simp; omega))⟩

set_option maxRecDepth 100000 in
set_option maxHeartbeats 4000000 in
theorem of_walk (N W R K wp1 d d3 ep nw words fields u1 u2 b2 lag e2 s1 u3 settle : Int) (w : World) (HX : Hid (May N W R K)) (w0 : 16 ≤ W) (w1b : W ≤ 256)
    (E1 : Hid (addL [W - 8, 1] = W - 7)) (E2 : Hid (addL [W, 1] = wp1)) (E3 : Hid (mulL [N, wp1] = d)) (E4 : Hid (mulL [3, d] = d3)) (E5 : Hid (addL [d3, 4] = ep)) (E6 : Hid (mulL [N, W] = nw)) (E7 : Hid (addL [24, R, nw] = words))
    (E8 : Hid (mulL [W - 8, W - 1] = fields)) (E9 : Hid (upI ep K = u1)) (E10 : Hid (mulL [2, u1] = u2)) (E11 : Hid (mulL [2, W - 7] = b2)) (E12 : Hid (addL [u2, b2] = lag)) (E13 : Hid (mulL [2, ep] = e2)) (E14 : Hid (addL [e2, d] = s1)) (E15 : Hid (upI s1 K = u3)) (E16 : Hid (addL [u3, 2] = settle)) :
    Calls Try.prog 19 #[.agg #[.int .i64 N, .int .i64 W, .int .i64 R, .int .i64 K]] w fun e w' => e = .returned (.tuple #[.agg #[.int .i64 words, .int .i64 (W - 8), .int .i64 (W - 7), .int .i64 fields, .int .i64 ep, .int .i64 d, .int .i64 lag, .int .i64 settle], .int .i64 0]) ∧ Below w.heap.size w w' := by
  go_enter Try.func19, Try.ntmps19
  go_wp2_with fail
  refine (check_yes _ _ _ _ _ HX.out).mono ?_
  rintro e w1 ⟨rfl, hb⟩
  obtain ⟨hc, hf⟩ := bcell hb
  have hz : w.heap.size + 1 < w1.heap.size := by have := hb.size; simp at this; omega
  have HB := Lib.hid hb
  clear hb
  go_wp2_with fail
  refine (eqIv (add2_lit _ _ _ _ (by simp)) E1.out).mono ?_
  rintro e w2 ⟨rfl, rfl⟩
  go_wp2_with fail
  have HB2 := Lib.hid (HB.out.trans ((below_new w1 (.cells #[.int .i64 (W - 8), .int .i64 1] 3)).mono HB.out.size))
  clear HB hc hf
  have c0 := fun w' (hC : Below _ _ w') => (((HB2.out.trans (Below.mono hC HB2.out.size)).cell (p := ⟨w.heap.size, 0, none⟩) (by simp; omega)).trans (show _ = some (.int .i64 N) by go_simp))
  have c1 := fun w' (hC : Below _ _ w') => (((HB2.out.trans (Below.mono hC HB2.out.size)).cell (p := ⟨w.heap.size, 1, none⟩) (by simp; omega)).trans (show _ = some (.int .i64 W) by go_simp))
  have c2 := fun w' (hC : Below _ _ w') => (((HB2.out.trans (Below.mono hC HB2.out.size)).cell (p := ⟨w.heap.size, 2, none⟩) (by simp; omega)).trans (show _ = some (.int .i64 R) by go_simp))
  have c3 := fun w' (hC : Below _ _ w') => (((HB2.out.trans (Below.mono hC HB2.out.size)).cell (p := ⟨w.heap.size, 3, none⟩) (by simp; omega)).trans (show _ = some (.int .i64 K) by go_simp))
  refine wp_region_tame_all [Fact.is (.pointer (some ⟨w.heap.size, 0, none⟩)), Fact.is (.int .i64 N), Fact.is (.pointer (some ⟨w.heap.size, 1, none⟩)), Fact.is (.int .i64 W), Fact.row .i64 [W, 1], Fact.is (.int .i64 wp1), Fact.row .i64 [N, wp1], Fact.is (.int .i64 d), Fact.is (.int .i64 d)] (by kernel_rfl) (by kernel_rfl) rfl (by kernel_rfl) (fun ops K2 _ hK => ?_)
  refine walkT_is (wantedN rfl) (fun w' hC hd => tame_1 1 (.pointer (some ⟨w.heap.size, 0, none⟩)) rfl (fun ρ hρ hf e0 => upon_is (by go_simp))) (by go_frame; rfl) (by simp only [List.nil_append, List.cons_append]; rfl) ?_
  refine walkT_is (wantedN rfl) (fun w' hC hd => tame_1 21 (.pointer (some ⟨w.heap.size, 0, none⟩)) rfl (fun ρ hρ hf e0 => upon_is (by have hc0 := c0 w' hC; go_simp))) (by go_frame; rfl) (by simp only [List.nil_append, List.cons_append]; rfl) ?_
  refine walkT_is (wantedN rfl) (fun w' hC hd => tame_1 1 (.pointer (some ⟨w.heap.size, 0, none⟩)) rfl (fun ρ hρ hf e0 => upon_is (by go_simp))) (by go_frame; rfl) (by simp only [List.nil_append, List.cons_append]; rfl) ?_
  refine walkT_is (wantedN rfl) (fun w' hC hd => tame_1 23 (.pointer (some ⟨w.heap.size, 1, none⟩)) rfl (fun ρ hρ hf e0 => upon_is (by have hc0 := c1 w' hC; go_simp))) (by go_frame; rfl) (by simp only [List.nil_append, List.cons_append]; rfl) ?_
  refine walkT_row (wantedN rfl) (n := 2) rfl (fun w' hC hd => tame_1 24 (.int .i64 W) rfl (fun ρ hρ hf e0 => upon_row (t := 3) (cap := 2) (by go_simp))) (fun ad cap => (by go_frame; rfl)) (fun ad => (by simp only [List.nil_append, List.cons_append]; rfl)) (fun ad4 cap4 => ?_)
  refine walkT_is (wantedN rfl) (fun w' hC hd => ?_) (by go_frame; rfl) (by simp only [List.nil_append, List.cons_append]; rfl) ?_
  · have hr : Row w' .i64 ad4 [W, 1] := hd 4 (by kernel_rfl)
    exact tame_1 25 (.slice ad4 2 cap4) rfl (fun ρ hρ hf e1 => upon_call (f := 40) (by go_simp) (eqIv (add_any ad4 cap4 [W, 1] w' hr (by simp)) E2.out))
  refine walkT_row (wantedN rfl) (n := 2) rfl (fun w' hC hd => tame_2 22 (.int .i64 N) 26 (.int .i64 wp1) rfl rfl (fun ρ hρ hf e0 e1 => upon_row (t := 3) (cap := 2) (by go_simp))) (fun ad cap => (by go_frame; rfl)) (fun ad => (by simp only [List.nil_append, List.cons_append]; rfl)) (fun ad6 cap6 => ?_)
  refine walkT_is (wantedN rfl) (fun w' hC hd => ?_) (by go_frame; rfl) (by simp only [List.nil_append, List.cons_append]; rfl) ?_
  · have hr : Row w' .i64 ad6 [N, wp1] := hd 6 (by kernel_rfl)
    exact tame_1 27 (.slice ad6 2 cap6) rfl (fun ρ hρ hf e1 => upon_call (f := 41) (by go_simp) (eqIv (mul_any ad6 cap6 [N, wp1] w' hr (by simp)) E3.out))
  refine walkT_is (wantedN rfl) (fun w' hC hd => tame_move _ (.inr rfl) rfl) (by go_frame; rfl) (by simp only [List.nil_append, List.cons_append]; rfl) ?_
  refine walkT_nil fun w3 hC3 _ => hK _ _ ?_
  have HB3 := Lib.hid (HB2.out.trans (hC3.mono HB2.out.size))
  clear c0 c1 c2 c3 HB2 hC3
  go_wp2_with fail
  refine (eqIv (mul2_lit _ _ _ _ (by simp)) E4.out).mono ?_
  rintro e w4 ⟨rfl, rfl⟩
  go_wp2_with fail
  refine (eqIv (add2_lit _ _ _ _ (by simp)) E5.out).mono ?_
  rintro e w4 ⟨rfl, rfl⟩
  go_wp2_with fail
  have HB4 := Lib.hid (HB3.out.trans (((below_new w3 (.cells #[.int .i64 3, .int .i64 d] 3)).alloc (by simp) (.cells #[.int .i64 d3, .int .i64 4] 3)).mono HB3.out.size))
  clear HB3
  have hwr : IntKind.i64.wrap (W - 1) = W - 1 := IntWalk.i64_in _ (by omega)
  have c0 := fun w' (hC : Below _ _ w') => (((HB4.out.trans (Below.mono hC HB4.out.size)).cell (p := ⟨w.heap.size, 0, none⟩) (by simp; omega)).trans (show _ = some (.int .i64 N) by go_simp))
  have c1 := fun w' (hC : Below _ _ w') => (((HB4.out.trans (Below.mono hC HB4.out.size)).cell (p := ⟨w.heap.size, 1, none⟩) (by simp; omega)).trans (show _ = some (.int .i64 W) by go_simp))
  have c2 := fun w' (hC : Below _ _ w') => (((HB4.out.trans (Below.mono hC HB4.out.size)).cell (p := ⟨w.heap.size, 2, none⟩) (by simp; omega)).trans (show _ = some (.int .i64 R) by go_simp))
  have c3 := fun w' (hC : Below _ _ w') => (((HB4.out.trans (Below.mono hC HB4.out.size)).cell (p := ⟨w.heap.size, 3, none⟩) (by simp; omega)).trans (show _ = some (.int .i64 K) by go_simp))
  refine wp_region_tame_tail [Fact.is (.pointer (some ⟨w.heap.size, 2, none⟩)), Fact.is (.int .i64 R), Fact.is (.pointer (some ⟨w.heap.size, 0, none⟩)), Fact.is (.int .i64 N), Fact.is (.pointer (some ⟨w.heap.size, 1, none⟩)), Fact.is (.int .i64 W), Fact.row .i64 [N, W], Fact.is (.int .i64 nw), Fact.row .i64 [24, R, nw], Fact.is (.int .i64 words), Fact.is (.int .i64 (W - 8)), Fact.is (.int .i64 (W - 7)), Fact.is (.int .i64 (W - 8)), Fact.is (.pointer (some ⟨w.heap.size, 1, none⟩)), Fact.is (.int .i64 W), Fact.is (.int .i64 (W - 1)), Fact.row .i64 [W - 8, W - 1], Fact.is (.int .i64 fields), Fact.is (.int .i64 ep), Fact.is (.int .i64 d), Fact.is (.int .i64 ep), Fact.is (.pointer (some ⟨w.heap.size, 3, none⟩)), Fact.is (.int .i64 K), Fact.is (.int .i64 u1), Fact.row .i64 [2, u1], Fact.is (.int .i64 u2), Fact.is (.int .i64 (W - 7)), Fact.row .i64 [2, W - 7], Fact.is (.int .i64 b2), Fact.row .i64 [u2, b2], Fact.is (.int .i64 lag), Fact.is (.int .i64 ep), Fact.row .i64 [2, ep], Fact.is (.int .i64 e2), Fact.is (.int .i64 d), Fact.row .i64 [e2, d], Fact.is (.int .i64 s1), Fact.is (.pointer (some ⟨w.heap.size, 3, none⟩)), Fact.is (.int .i64 K), Fact.is (.int .i64 u3), Fact.row .i64 [u3, 2], Fact.is (.int .i64 settle), Fact.is (.agg #[.int .i64 words, .int .i64 (W - 8), .int .i64 (W - 7), .int .i64 fields, .int .i64 ep, .int .i64 d, .int .i64 lag, .int .i64 settle])] (by kernel_rfl) (by kernel_rfl) (by kernel_rfl) (fun ops K2 _ hK => ?_)
  refine walkT_is (wantedN rfl) (fun w' hC hd => tame_1 1 (.pointer (some ⟨w.heap.size, 0, none⟩)) rfl (fun ρ hρ hf e0 => upon_is (by go_simp))) (by go_frame; rfl) (by simp only [List.nil_append, List.cons_append]; rfl) ?_
  refine walkT_is (wantedN rfl) (fun w' hC hd => tame_1 34 (.pointer (some ⟨w.heap.size, 2, none⟩)) rfl (fun ρ hρ hf e0 => upon_is (by have hc0 := c2 w' hC; go_simp))) (by go_frame; rfl) (by simp only [List.nil_append, List.cons_append]; rfl) ?_
  refine walkT_is (wantedN rfl) (fun w' hC hd => tame_1 1 (.pointer (some ⟨w.heap.size, 0, none⟩)) rfl (fun ρ hρ hf e0 => upon_is (by go_simp))) (by go_frame; rfl) (by simp only [List.nil_append, List.cons_append]; rfl) ?_
  refine walkT_is (wantedN rfl) (fun w' hC hd => tame_1 36 (.pointer (some ⟨w.heap.size, 0, none⟩)) rfl (fun ρ hρ hf e0 => upon_is (by have hc0 := c0 w' hC; go_simp))) (by go_frame; rfl) (by simp only [List.nil_append, List.cons_append]; rfl) ?_
  refine walkT_is (wantedN rfl) (fun w' hC hd => tame_1 1 (.pointer (some ⟨w.heap.size, 0, none⟩)) rfl (fun ρ hρ hf e0 => upon_is (by go_simp))) (by go_frame; rfl) (by simp only [List.nil_append, List.cons_append]; rfl) ?_
  refine walkT_is (wantedN rfl) (fun w' hC hd => tame_1 38 (.pointer (some ⟨w.heap.size, 1, none⟩)) rfl (fun ρ hρ hf e0 => upon_is (by have hc0 := c1 w' hC; go_simp))) (by go_frame; rfl) (by simp only [List.nil_append, List.cons_append]; rfl) ?_
  refine walkT_row (wantedN rfl) (n := 2) rfl (fun w' hC hd => tame_2 37 (.int .i64 N) 39 (.int .i64 W) rfl rfl (fun ρ hρ hf e0 e1 => upon_row (t := 3) (cap := 2) (by go_simp))) (fun ad cap => (by go_frame; rfl)) (fun ad => (by simp only [List.nil_append, List.cons_append]; rfl)) (fun ad6 cap6 => ?_)
  refine walkT_is (wantedN rfl) (fun w' hC hd => ?_) (by go_frame; rfl) (by simp only [List.nil_append, List.cons_append]; rfl) ?_
  · have hr : Row w' .i64 ad6 [N, W] := hd 6 (by kernel_rfl)
    exact tame_1 40 (.slice ad6 2 cap6) rfl (fun ρ hρ hf e1 => upon_call (f := 41) (by go_simp) (eqIv (mul_any ad6 cap6 [N, W] w' hr (by simp)) E6.out))
  refine walkT_row (wantedN rfl) (n := 3) rfl (fun w' hC hd => tame_2 35 (.int .i64 R) 41 (.int .i64 nw) rfl rfl (fun ρ hρ hf e0 e1 => upon_row (t := 3) (cap := 3) (by go_simp))) (fun ad cap => (by go_frame; rfl)) (fun ad => (by simp only [List.nil_append, List.cons_append]; rfl)) (fun ad8 cap8 => ?_)
  refine walkT_is (wantedN rfl) (fun w' hC hd => ?_) (by go_frame; rfl) (by simp only [List.nil_append, List.cons_append]; rfl) ?_
  · have hr : Row w' .i64 ad8 [24, R, nw] := hd 8 (by kernel_rfl)
    exact tame_1 42 (.slice ad8 3 cap8) rfl (fun ρ hρ hf e1 => upon_call (f := 40) (by go_simp) (eqIv (add_any ad8 cap8 [24, R, nw] w' hr (by simp)) E7.out))
  refine walkT_is (wantedN rfl) (fun w' hC hd => tame_move _ (.inl rfl) rfl) (by go_frame; rfl) (by simp only [List.nil_append, List.cons_append]; rfl) ?_
  refine walkT_is (wantedN rfl) (fun w' hC hd => tame_move _ (.inl rfl) rfl) (by go_frame; rfl) (by simp only [List.nil_append, List.cons_append]; rfl) ?_
  refine walkT_is (wantedN rfl) (fun w' hC hd => tame_move _ (.inl rfl) rfl) (by go_frame; rfl) (by simp only [List.nil_append, List.cons_append]; rfl) ?_
  refine walkT_is (wantedN rfl) (fun w' hC hd => tame_1 1 (.pointer (some ⟨w.heap.size, 0, none⟩)) rfl (fun ρ hρ hf e0 => upon_is (by go_simp))) (by go_frame; rfl) (by simp only [List.nil_append, List.cons_append]; rfl) ?_
  refine walkT_is (wantedN rfl) (fun w' hC hd => tame_1 47 (.pointer (some ⟨w.heap.size, 1, none⟩)) rfl (fun ρ hρ hf e0 => upon_is (by have hc0 := c1 w' hC; go_simp))) (by go_frame; rfl) (by simp only [List.nil_append, List.cons_append]; rfl) ?_
  refine walkT_is (wantedN rfl) (fun w' hC hd => tame_1 48 (.int .i64 W) rfl (fun ρ hρ hf e0 => upon_is (by have hb0 := hwr; go_simp))) (by go_frame; rfl) (by simp only [List.nil_append, List.cons_append]; rfl) ?_
  refine walkT_row (wantedN rfl) (n := 2) rfl (fun w' hC hd => tame_2 46 (.int .i64 (W - 8)) 49 (.int .i64 (W - 1)) rfl rfl (fun ρ hρ hf e0 e1 => upon_row (t := 3) (cap := 2) (by go_simp))) (fun ad cap => (by go_frame; rfl)) (fun ad => (by simp only [List.nil_append, List.cons_append]; rfl)) (fun ad16 cap16 => ?_)
  refine walkT_is (wantedN rfl) (fun w' hC hd => ?_) (by go_frame; rfl) (by simp only [List.nil_append, List.cons_append]; rfl) ?_
  · have hr : Row w' .i64 ad16 [W - 8, W - 1] := hd 16 (by kernel_rfl)
    exact tame_1 50 (.slice ad16 2 cap16) rfl (fun ρ hρ hf e1 => upon_call (f := 41) (by go_simp) (eqIv (mul_any ad16 cap16 [W - 8, W - 1] w' hr (by simp)) E8.out))
  refine walkT_is (wantedN rfl) (fun w' hC hd => tame_move _ (.inl rfl) rfl) (by go_frame; rfl) (by simp only [List.nil_append, List.cons_append]; rfl) ?_
  refine walkT_is (wantedN rfl) (fun w' hC hd => tame_move _ (.inl rfl) rfl) (by go_frame; rfl) (by simp only [List.nil_append, List.cons_append]; rfl) ?_
  refine walkT_is (wantedN rfl) (fun w' hC hd => tame_move _ (.inl rfl) rfl) (by go_frame; rfl) (by simp only [List.nil_append, List.cons_append]; rfl) ?_
  refine walkT_is (wantedN rfl) (fun w' hC hd => tame_1 1 (.pointer (some ⟨w.heap.size, 0, none⟩)) rfl (fun ρ hρ hf e0 => upon_is (by go_simp))) (by go_frame; rfl) (by simp only [List.nil_append, List.cons_append]; rfl) ?_
  refine walkT_is (wantedN rfl) (fun w' hC hd => tame_1 55 (.pointer (some ⟨w.heap.size, 3, none⟩)) rfl (fun ρ hρ hf e0 => upon_is (by have hc0 := c3 w' hC; go_simp))) (by go_frame; rfl) (by simp only [List.nil_append, List.cons_append]; rfl) ?_
  refine walkT_is (wantedN rfl) (fun w' hC hd => tame_2 54 (.int .i64 ep) 56 (.int .i64 K) rfl rfl (fun ρ hρ hf e0 e1 => upon_call (f := 42) (by go_simp) (eqIv (up_any _ _ _) E9.out))) (by go_frame; rfl) (by simp only [List.nil_append, List.cons_append]; rfl) ?_
  refine walkT_row (wantedN rfl) (n := 2) rfl (fun w' hC hd => tame_1 57 (.int .i64 u1) rfl (fun ρ hρ hf e0 => upon_row (t := 3) (cap := 2) (by go_simp))) (fun ad cap => (by go_frame; rfl)) (fun ad => (by simp only [List.nil_append, List.cons_append]; rfl)) (fun ad24 cap24 => ?_)
  refine walkT_is (wantedN rfl) (fun w' hC hd => ?_) (by go_frame; rfl) (by simp only [List.nil_append, List.cons_append]; rfl) ?_
  · have hr : Row w' .i64 ad24 [2, u1] := hd 24 (by kernel_rfl)
    exact tame_1 58 (.slice ad24 2 cap24) rfl (fun ρ hρ hf e1 => upon_call (f := 41) (by go_simp) (eqIv (mul_any ad24 cap24 [2, u1] w' hr (by simp)) E10.out))
  refine walkT_is (wantedN rfl) (fun w' hC hd => tame_move _ (.inl rfl) rfl) (by go_frame; rfl) (by simp only [List.nil_append, List.cons_append]; rfl) ?_
  refine walkT_row (wantedN rfl) (n := 2) rfl (fun w' hC hd => tame_1 60 (.int .i64 (W - 7)) rfl (fun ρ hρ hf e0 => upon_row (t := 3) (cap := 2) (by go_simp))) (fun ad cap => (by go_frame; rfl)) (fun ad => (by simp only [List.nil_append, List.cons_append]; rfl)) (fun ad27 cap27 => ?_)
  refine walkT_is (wantedN rfl) (fun w' hC hd => ?_) (by go_frame; rfl) (by simp only [List.nil_append, List.cons_append]; rfl) ?_
  · have hr : Row w' .i64 ad27 [2, W - 7] := hd 27 (by kernel_rfl)
    exact tame_1 61 (.slice ad27 2 cap27) rfl (fun ρ hρ hf e1 => upon_call (f := 41) (by go_simp) (eqIv (mul_any ad27 cap27 [2, W - 7] w' hr (by simp)) E11.out))
  refine walkT_row (wantedN rfl) (n := 2) rfl (fun w' hC hd => tame_2 59 (.int .i64 u2) 62 (.int .i64 b2) rfl rfl (fun ρ hρ hf e0 e1 => upon_row (t := 3) (cap := 2) (by go_simp))) (fun ad cap => (by go_frame; rfl)) (fun ad => (by simp only [List.nil_append, List.cons_append]; rfl)) (fun ad29 cap29 => ?_)
  refine walkT_is (wantedN rfl) (fun w' hC hd => ?_) (by go_frame; rfl) (by simp only [List.nil_append, List.cons_append]; rfl) ?_
  · have hr : Row w' .i64 ad29 [u2, b2] := hd 29 (by kernel_rfl)
    exact tame_1 63 (.slice ad29 2 cap29) rfl (fun ρ hρ hf e1 => upon_call (f := 40) (by go_simp) (eqIv (add_any ad29 cap29 [u2, b2] w' hr (by simp)) E12.out))
  refine walkT_is (wantedN rfl) (fun w' hC hd => tame_move _ (.inl rfl) rfl) (by go_frame; rfl) (by simp only [List.nil_append, List.cons_append]; rfl) ?_
  refine walkT_row (wantedN rfl) (n := 2) rfl (fun w' hC hd => tame_1 65 (.int .i64 ep) rfl (fun ρ hρ hf e0 => upon_row (t := 3) (cap := 2) (by go_simp))) (fun ad cap => (by go_frame; rfl)) (fun ad => (by simp only [List.nil_append, List.cons_append]; rfl)) (fun ad32 cap32 => ?_)
  refine walkT_is (wantedN rfl) (fun w' hC hd => ?_) (by go_frame; rfl) (by simp only [List.nil_append, List.cons_append]; rfl) ?_
  · have hr : Row w' .i64 ad32 [2, ep] := hd 32 (by kernel_rfl)
    exact tame_1 66 (.slice ad32 2 cap32) rfl (fun ρ hρ hf e1 => upon_call (f := 41) (by go_simp) (eqIv (mul_any ad32 cap32 [2, ep] w' hr (by simp)) E13.out))
  refine walkT_is (wantedN rfl) (fun w' hC hd => tame_move _ (.inl rfl) rfl) (by go_frame; rfl) (by simp only [List.nil_append, List.cons_append]; rfl) ?_
  refine walkT_row (wantedN rfl) (n := 2) rfl (fun w' hC hd => tame_2 67 (.int .i64 e2) 68 (.int .i64 d) rfl rfl (fun ρ hρ hf e0 e1 => upon_row (t := 3) (cap := 2) (by go_simp))) (fun ad cap => (by go_frame; rfl)) (fun ad => (by simp only [List.nil_append, List.cons_append]; rfl)) (fun ad35 cap35 => ?_)
  refine walkT_is (wantedN rfl) (fun w' hC hd => ?_) (by go_frame; rfl) (by simp only [List.nil_append, List.cons_append]; rfl) ?_
  · have hr : Row w' .i64 ad35 [e2, d] := hd 35 (by kernel_rfl)
    exact tame_1 69 (.slice ad35 2 cap35) rfl (fun ρ hρ hf e1 => upon_call (f := 40) (by go_simp) (eqIv (add_any ad35 cap35 [e2, d] w' hr (by simp)) E14.out))
  refine walkT_is (wantedN rfl) (fun w' hC hd => tame_1 1 (.pointer (some ⟨w.heap.size, 0, none⟩)) rfl (fun ρ hρ hf e0 => upon_is (by go_simp))) (by go_frame; rfl) (by simp only [List.nil_append, List.cons_append]; rfl) ?_
  refine walkT_is (wantedN rfl) (fun w' hC hd => tame_1 71 (.pointer (some ⟨w.heap.size, 3, none⟩)) rfl (fun ρ hρ hf e0 => upon_is (by have hc0 := c3 w' hC; go_simp))) (by go_frame; rfl) (by simp only [List.nil_append, List.cons_append]; rfl) ?_
  refine walkT_is (wantedN rfl) (fun w' hC hd => tame_2 70 (.int .i64 s1) 72 (.int .i64 K) rfl rfl (fun ρ hρ hf e0 e1 => upon_call (f := 42) (by go_simp) (eqIv (up_any _ _ _) E15.out))) (by go_frame; rfl) (by simp only [List.nil_append, List.cons_append]; rfl) ?_
  refine walkT_row (wantedN rfl) (n := 2) rfl (fun w' hC hd => tame_1 73 (.int .i64 u3) rfl (fun ρ hρ hf e0 => upon_row (t := 3) (cap := 2) (by go_simp))) (fun ad cap => (by go_frame; rfl)) (fun ad => (by simp only [List.nil_append, List.cons_append]; rfl)) (fun ad40 cap40 => ?_)
  refine walkT_is (wantedN rfl) (fun w' hC hd => ?_) (by go_frame; rfl) (by simp only [List.nil_append, List.cons_append]; rfl) ?_
  · have hr : Row w' .i64 ad40 [u3, 2] := hd 40 (by kernel_rfl)
    exact tame_1 74 (.slice ad40 2 cap40) rfl (fun ρ hρ hf e1 => upon_call (f := 40) (by go_simp) (eqIv (add_any ad40 cap40 [u3, 2] w' hr (by simp)) E16.out))
  refine walkT_is (wantedN rfl) (fun w' hC hd => tame_8 43 (.int .i64 words) 44 (.int .i64 (W - 8)) 45 (.int .i64 (W - 7)) 51 (.int .i64 fields) 52 (.int .i64 ep) 53 (.int .i64 d) 64 (.int .i64 lag) 75 (.int .i64 settle) rfl rfl rfl rfl rfl rfl rfl rfl (fun ρ hρ hf e0 e1 e2 e3 e4 e5 e6 e7 => upon_is (by go_simp))) (by go_frame; rfl) (by simp only [List.nil_append, List.cons_append]; rfl) ?_
  refine walkT_nil fun w5 hC5 _ => hK _ _ ?_
  have hb5 := HB4.out.trans (hC5.mono HB4.out.size)
  clear c0 c1 c2 c3 HB4 hC5 hwr
  show wpList _ _ _ [_, _] _ _
  obtain ⟨hc, hf⟩ := bcell hb5
  have hz5 : w.heap.size + 1 < w5.heap.size := by have := hb5.size; simp at this; omega
  have HB5 := Lib.hid hb5
  clear hb5
  go_wp2_with fail
  exact bodyPost_ret (v := .tuple #[.agg #[.int .i64 words, .int .i64 (W - 8), .int .i64 (W - 7), .int .i64 fields, .int .i64 ep, .int .i64 d, .int .i64 lag, .int .i64 settle], .int .i64 0]) (by simp [results, Try.results19, go_sem, hc, hz5]) rfl ⟨rfl, by
    repeat refine Below.setCell ?_ (by simp) _
    exact ((below_new w _).alloc (by simp) _).trans (HB5.out.mono (by simp; omega))⟩


end Go.Proofs.Ytgfpcamgebnfmaa.Pk
