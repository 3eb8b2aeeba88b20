/- The statement WholeNumbers holds for every input: the numbers of a configuration hang together: Settle ticks pay for two epochs and all draining, Lag blocks pay for two epochs and leave room for two objects, an Alloc's pause is greater than its blocks' units, and Words is what it must be. No condition. -/
import Derived.Test.YtknfhkfbbnekjaaRows
import Derived.Test.YtknfhkfbbnekjaaAwake
import Derived.Test.YtknfhkfbbnekjaaPausePlan
import Derived.WalkKit
import Derived.ProofKit
import Derived.OpenShut
import Derived.ChangeOld
import Derived.Carry
import Derived.Lib.SmallJoins
namespace Go.Proofs.Ytknfhkfbbnekjaa.wholeNumbers
open Go.ChangeShapes Go.WideShapes Go.ChangeAt Go.RowKit Go.Joins
open Go.Proofs.Ytknfhkfbbnekjaa.Pk
set_option linter.unusedVariables false
set_option linter.unusedSimpArgs false

theorem own : ownKnob Try.prog.godebug = none := by kernel_rfl
theorem laidOut : laidOutB Try.prog = true := by kernel_rfl

set_option maxRecDepth 100000 in
set_option maxHeartbeats 1000000 in
theorem walk_no (N W R K blocks : Int) (w : World) (h : mayB N W R K = false) :
    Calls Try.prog 6 #[.agg #[.int .i64 N, .int .i64 W, .int .i64 R, .int .i64 K], .int .i64 blocks] w fun e w' => e = .returned (.bool true) ∧ Below w.heap.size w w' := by
  have HX := Lib.hid h
  clear h
  go_enter Try.func6, Try.ntmps6
  go_wp2_with fail
  refine (of_no _ _ _ _ _ HX.out).mono ?_
  rintro e w1 ⟨rfl, hb⟩
  have HB := Lib.hid (below_step (below_new w _) hb)
  clear hb
  go_wp2_with fail
  refine (awake3_any _).mono ?_
  rintro e w2 ⟨rfl, hb⟩
  have HB2 := Lib.hid (below_step (HB.out.alloc HB.out.size _) hb)
  clear hb
  go_wp2_with fail
  refine (awake3_any _).mono ?_
  rintro e w3 ⟨rfl, hb⟩
  have HB3 := Lib.hid (below_step HB2.out hb)
  clear hb
  go_wp2_with fail
  go_ret
  exact ⟨rfl, HB3.out⟩

set_option maxRecDepth 100000 in
set_option maxHeartbeats 2000000 in
theorem walk_yes (N W R K blocks wd fd ep dr lg st pd ld b p : Int) (w : World)
    (HO : Hid (∀ w', Calls Try.prog 11 #[.agg #[.int .i64 N, .int .i64 W, .int .i64 R, .int .i64 K]] w' fun e w'' => e = .returned (.tuple #[.agg #[.int .i64 wd, .int .i64 (W - 8), .int .i64 (W - 7), .int .i64 fd, .int .i64 ep, .int .i64 dr, .int .i64 lg, .int .i64 st], .int .i64 0]) ∧ Below w'.heap.size w' w''))
    (HP : Hid (∀ w', Calls Try.prog 8 #[.agg #[.int .i64 N, .int .i64 W, .int .i64 R, .int .i64 K], .int .i64 1, .int .i64 b] w' fun e w'' => e = .returned (.int .i64 p) ∧ Below w'.heap.size w' w''))
    (H4 : Hid (mulL [st - 2, K] = pd)) (H5 : Hid (mulL [lg - 2 * (W - 7), K] = ld)) (H6 : Hid (clampI blocks 1 (W - 7) = b))
    (s0 : 2 ≤ st) (s1 : st ≤ 40000000) (l0 : 2 * (W - 7) ≤ lg) (l1 : lg ≤ 40000000) (w0 : 16 ≤ W) (w1' : W ≤ 256)
    (x46 : IntKind.i64.wrap (2 * ep) = 2 * ep) (x49 : IntKind.i64.wrap (2 * ep + dr) = 2 * ep + dr) (x50 : 2 * ep + dr ≤ pd) (x56 : 2 * ep ≤ ld) (x61 : IntKind.i64.wrap (dr * 3) = dr * 3) (x62 : IntKind.i64.wrap (dr * 3 + 4) = dr * 3 + 4) (x65 : (dr * 3 + 4 == ep) = true)
    (x76 : IntKind.i64.wrap (K + W) = K + W) (x77 : IntKind.i64.wrap (b * (K + W)) = b * (K + W)) (x78 : b * (K + W) < p) (x85 : IntKind.i64.wrap (24 + R) = 24 + R) (x90 : IntKind.i64.wrap (N * W) = N * W) (x91 : IntKind.i64.wrap (24 + R + N * W) = 24 + R + N * W) (x92 : (wd == 24 + R + N * W) = true) :
    Calls Try.prog 6 #[.agg #[.int .i64 N, .int .i64 W, .int .i64 R, .int .i64 K], .int .i64 blocks] w fun e w' => e = .returned (.bool true) ∧ Below w.heap.size w w' := by
  have Y46 := Lib.hid x46
  have Y49 := Lib.hid x49
  have Y50 := Lib.hid x50
  have Y56 := Lib.hid x56
  have Y61 := Lib.hid x61
  have Y62 := Lib.hid x62
  have Y65 := Lib.hid x65
  have Y76 := Lib.hid x76
  have Y77 := Lib.hid x77
  have Y78 := Lib.hid x78
  have Y85 := Lib.hid x85
  have Y90 := Lib.hid x90
  have Y91 := Lib.hid x91
  have Y92 := Lib.hid x92
  clear x46 x49 x50 x56 x61 x62 x65 x76 x77 x78 x85 x90 x91 x92
  go_enter Try.func6, Try.ntmps6
  go_wp2_with fail
  refine (HO.out _).mono ?_
  rintro e w1 ⟨rfl, hb⟩
  have hz1 : w.heap.size < w1.heap.size := by have := hb.size; simp at this; omega
  obtain ⟨hc, hf⟩ := bcell hb
  have HB := Lib.hid (below_step (below_new w _) hb)
  have c0 : w1.cell? ⟨w.heap.size, 0, none⟩ = some (.int .i64 N) := by rw [hc _ _ (by simp)]; go_simp
  have c1 : w1.cell? ⟨w.heap.size, 1, none⟩ = some (.int .i64 W) := by rw [hc _ _ (by simp)]; go_simp
  have c2 : w1.cell? ⟨w.heap.size, 2, none⟩ = some (.int .i64 R) := by rw [hc _ _ (by simp)]; go_simp
  have c3 : w1.cell? ⟨w.heap.size, 3, none⟩ = some (.int .i64 K) := by rw [hc _ _ (by simp)]; go_simp
  clear hb hc hf
  go_wp2_with fail
  refine (awake3_any _).mono ?_
  rintro e w2 ⟨rfl, hb⟩
  have hz2 : w1.heap.size < w2.heap.size := by have := hb.size; simp at this; omega
  have hz2' : w.heap.size < w2.heap.size := by omega
  have HB2 := Lib.hid (below_step (HB.out.alloc HB.out.size _) hb)
  have a0 : w2.cell? ⟨w1.heap.size, 0, none⟩ = some (.int .i64 wd) := by rw [(bcell hb).1 _ _ (by simp)]; go_simp
  have a2 : w2.cell? ⟨w1.heap.size, 2, none⟩ = some (.int .i64 (W - 7)) := by rw [(bcell hb).1 _ _ (by simp)]; go_simp
  have a4 : w2.cell? ⟨w1.heap.size, 4, none⟩ = some (.int .i64 ep) := by rw [(bcell hb).1 _ _ (by simp)]; go_simp
  have a5 : w2.cell? ⟨w1.heap.size, 5, none⟩ = some (.int .i64 dr) := by rw [(bcell hb).1 _ _ (by simp)]; go_simp
  have a6 : w2.cell? ⟨w1.heap.size, 6, none⟩ = some (.int .i64 lg) := by rw [(bcell hb).1 _ _ (by simp)]; go_simp
  have a7 : w2.cell? ⟨w1.heap.size, 7, none⟩ = some (.int .i64 st) := by rw [(bcell hb).1 _ _ (by simp)]; go_simp
  rw [← World.cell?_alloc_past _ _ _ (by omega), ← (bcell hb).1 _ _ (by simp; omega)] at c0 c1 c2 c3
  clear hb
  go_wp2_with fail
  refine (eqIv (mul2_lit _ _ _ _ (by simp)) H4.out).mono ?_
  rintro e w3 ⟨rfl, rfl⟩
  go_wp2_with fail
  refine (eqIv (mul2_lit _ _ _ _ (by simp)) H5.out).mono ?_
  rintro e w3 ⟨rfl, rfl⟩
  go_wp2_with fail
  refine (eqIv (clamp_any _ _ _ _) H6.out).mono ?_
  rintro e w3 ⟨rfl, rfl⟩
  go_wp2_with fail
  have x46 := Y46.out
  have x49 := Y49.out
  have x50 := Y50.out
  have x56 := Y56.out
  have x61 := Y61.out
  have x62 := Y62.out
  have x65 := Y65.out
  have x76 := Y76.out
  have x77 := Y77.out
  have x78 := Y78.out
  have x85 := Y85.out
  have x90 := Y90.out
  have x91 := Y91.out
  have x92 := Y92.out

  have c0 := fun w' (hC : Below ((w2.alloc (.cells #[.int .i64 (st - 2), .int .i64 K] 3)).alloc (.cells #[.int .i64 (lg - 2 * (W - 7)), .int .i64 K] 3)).heap.size ((w2.alloc (.cells #[.int .i64 (st - 2), .int .i64 K] 3)).alloc (.cells #[.int .i64 (lg - 2 * (W - 7)), .int .i64 K] 3)) w') => (hC.cell (p := ⟨w.heap.size, 0, none⟩) (by simp; omega)).trans (show _ = some (.int .i64 N) by rw [World.cell?_alloc_past _ _ _ (by simp; omega), World.cell?_alloc_past _ _ _ (by omega)]; exact c0)
  have c1 := fun w' (hC : Below ((w2.alloc (.cells #[.int .i64 (st - 2), .int .i64 K] 3)).alloc (.cells #[.int .i64 (lg - 2 * (W - 7)), .int .i64 K] 3)).heap.size ((w2.alloc (.cells #[.int .i64 (st - 2), .int .i64 K] 3)).alloc (.cells #[.int .i64 (lg - 2 * (W - 7)), .int .i64 K] 3)) w') => (hC.cell (p := ⟨w.heap.size, 1, none⟩) (by simp; omega)).trans (show _ = some (.int .i64 W) by rw [World.cell?_alloc_past _ _ _ (by simp; omega), World.cell?_alloc_past _ _ _ (by omega)]; exact c1)
  have c2 := fun w' (hC : Below ((w2.alloc (.cells #[.int .i64 (st - 2), .int .i64 K] 3)).alloc (.cells #[.int .i64 (lg - 2 * (W - 7)), .int .i64 K] 3)).heap.size ((w2.alloc (.cells #[.int .i64 (st - 2), .int .i64 K] 3)).alloc (.cells #[.int .i64 (lg - 2 * (W - 7)), .int .i64 K] 3)) w') => (hC.cell (p := ⟨w.heap.size, 2, none⟩) (by simp; omega)).trans (show _ = some (.int .i64 R) by rw [World.cell?_alloc_past _ _ _ (by simp; omega), World.cell?_alloc_past _ _ _ (by omega)]; exact c2)
  have c3 := fun w' (hC : Below ((w2.alloc (.cells #[.int .i64 (st - 2), .int .i64 K] 3)).alloc (.cells #[.int .i64 (lg - 2 * (W - 7)), .int .i64 K] 3)).heap.size ((w2.alloc (.cells #[.int .i64 (st - 2), .int .i64 K] 3)).alloc (.cells #[.int .i64 (lg - 2 * (W - 7)), .int .i64 K] 3)) w') => (hC.cell (p := ⟨w.heap.size, 3, none⟩) (by simp; omega)).trans (show _ = some (.int .i64 K) by rw [World.cell?_alloc_past _ _ _ (by simp; omega), World.cell?_alloc_past _ _ _ (by omega)]; exact c3)
  have a0 := fun w' (hC : Below ((w2.alloc (.cells #[.int .i64 (st - 2), .int .i64 K] 3)).alloc (.cells #[.int .i64 (lg - 2 * (W - 7)), .int .i64 K] 3)).heap.size ((w2.alloc (.cells #[.int .i64 (st - 2), .int .i64 K] 3)).alloc (.cells #[.int .i64 (lg - 2 * (W - 7)), .int .i64 K] 3)) w') => (hC.cell (p := ⟨w1.heap.size, 0, none⟩) (by simp; omega)).trans (show _ = some (.int .i64 wd) by rw [World.cell?_alloc_past _ _ _ (by simp; omega), World.cell?_alloc_past _ _ _ (by omega)]; exact a0)
  have a4 := fun w' (hC : Below ((w2.alloc (.cells #[.int .i64 (st - 2), .int .i64 K] 3)).alloc (.cells #[.int .i64 (lg - 2 * (W - 7)), .int .i64 K] 3)).heap.size ((w2.alloc (.cells #[.int .i64 (st - 2), .int .i64 K] 3)).alloc (.cells #[.int .i64 (lg - 2 * (W - 7)), .int .i64 K] 3)) w') => (hC.cell (p := ⟨w1.heap.size, 4, none⟩) (by simp; omega)).trans (show _ = some (.int .i64 ep) by rw [World.cell?_alloc_past _ _ _ (by simp; omega), World.cell?_alloc_past _ _ _ (by omega)]; exact a4)
  have a5 := fun w' (hC : Below ((w2.alloc (.cells #[.int .i64 (st - 2), .int .i64 K] 3)).alloc (.cells #[.int .i64 (lg - 2 * (W - 7)), .int .i64 K] 3)).heap.size ((w2.alloc (.cells #[.int .i64 (st - 2), .int .i64 K] 3)).alloc (.cells #[.int .i64 (lg - 2 * (W - 7)), .int .i64 K] 3)) w') => (hC.cell (p := ⟨w1.heap.size, 5, none⟩) (by simp; omega)).trans (show _ = some (.int .i64 dr) by rw [World.cell?_alloc_past _ _ _ (by simp; omega), World.cell?_alloc_past _ _ _ (by omega)]; exact a5)
  clear a2 a6 a7 s0 s1 l0 l1
  refine wp_region_tame_all [Fact.is (.int .i64 pd), Fact.is (.pointer (some ⟨w1.heap.size, 4, none⟩)), Fact.is (.int .i64 ep), Fact.is (.int .i64 (2 * ep)), Fact.is (.pointer (some ⟨w1.heap.size, 5, none⟩)), Fact.is (.int .i64 dr), Fact.is (.int .i64 (2 * ep + dr)), Fact.is (.bool true), Fact.is (.bool true), Fact.is (.int .i64 ld), Fact.is (.pointer (some ⟨w1.heap.size, 4, none⟩)), Fact.is (.int .i64 ep), Fact.is (.int .i64 (2 * ep)), Fact.is (.bool true), Fact.is (.bool true), Fact.is (.bool true), Fact.is (.pointer (some ⟨w1.heap.size, 5, none⟩)), Fact.is (.int .i64 dr), Fact.is (.int .i64 (dr * 3)), Fact.is (.int .i64 (dr * 3 + 4)), Fact.is (.pointer (some ⟨w1.heap.size, 4, none⟩)), Fact.is (.int .i64 ep), Fact.is (.bool true), Fact.is (.bool true), Fact.is (.bool true), Fact.is (.agg #[.int .i64 N, .int .i64 W, .int .i64 R, .int .i64 K]), Fact.is (.int .i64 b), Fact.is (.int .i64 p), Fact.is (.int .i64 b), Fact.is (.pointer (some ⟨w.heap.size, 3, none⟩)), Fact.is (.int .i64 K), Fact.is (.pointer (some ⟨w.heap.size, 1, none⟩)), Fact.is (.int .i64 W), Fact.is (.int .i64 (K + W)), Fact.is (.int .i64 (b * (K + W))), Fact.is (.bool true), Fact.is (.bool true), Fact.is (.bool true), Fact.is (.pointer (some ⟨w1.heap.size, 0, none⟩)), Fact.is (.int .i64 wd), Fact.is (.pointer (some ⟨w.heap.size, 2, none⟩)), Fact.is (.int .i64 R), Fact.is (.int .i64 (24 + R)), Fact.is (.pointer (some ⟨w.heap.size, 0, none⟩)), Fact.is (.int .i64 N), Fact.is (.pointer (some ⟨w.heap.size, 1, none⟩)), Fact.is (.int .i64 W), Fact.is (.int .i64 (N * W)), Fact.is (.int .i64 (24 + R + N * W)), Fact.is (.bool true), Fact.is (.bool true), Fact.is (.bool true)] (by kernel_rfl) (by kernel_rfl) rfl (by kernel_rfl) (fun ops K2 hops hK => ?_)
  refine walkT_is (wantedN rfl) (fun w' hC hd => tame_move _ (.inl rfl) rfl) (by go_frame; rfl) (by simp only [List.nil_append, List.cons_append]; rfl) ?_
  refine walkT_is (wantedN rfl) (fun w' hC hd => tame_1 5 (.pointer (some ⟨w1.heap.size, 0, none⟩)) rfl (fun ρ hρ hf e0 => upon_is (by go_simp))) (by go_frame; rfl) (by simp only [List.nil_append, List.cons_append]; rfl) ?_
  refine walkT_is (wantedN rfl) (fun w' hC hd => tame_1 44 (.pointer (some ⟨w1.heap.size, 4, none⟩)) rfl (fun ρ hρ hf e0 => upon_is (by have hc0 := a4 w' hC; go_simp))) (by go_frame; rfl) (by simp only [List.nil_append, List.cons_append]; rfl) ?_
  refine walkT_is (wantedN rfl) (fun w' hC hd => tame_1 45 (.int .i64 ep) rfl (fun ρ hρ hf e0 => upon_is (by have hb0 := x46; go_simp))) (by go_frame; rfl) (by simp only [List.nil_append, List.cons_append]; rfl) ?_
  refine walkT_is (wantedN rfl) (fun w' hC hd => tame_1 5 (.pointer (some ⟨w1.heap.size, 0, none⟩)) rfl (fun ρ hρ hf e0 => upon_is (by go_simp))) (by go_frame; rfl) (by simp only [List.nil_append, List.cons_append]; rfl) ?_
  refine walkT_is (wantedN rfl) (fun w' hC hd => tame_1 47 (.pointer (some ⟨w1.heap.size, 5, none⟩)) rfl (fun ρ hρ hf e0 => upon_is (by have hc0 := a5 w' hC; go_simp))) (by go_frame; rfl) (by simp only [List.nil_append, List.cons_append]; rfl) ?_
  refine walkT_is (wantedN rfl) (fun w' hC hd => tame_2 46 (.int .i64 (2 * ep)) 48 (.int .i64 dr) rfl rfl (fun ρ hρ hf e0 e1 => upon_is (by have hb0 := x49; go_simp))) (by go_frame; rfl) (by simp only [List.nil_append, List.cons_append]; rfl) ?_
  refine walkT_is (wantedN rfl) (fun w' hC hd => tame_2 43 (.int .i64 pd) 49 (.int .i64 (2 * ep + dr)) rfl rfl (fun ρ hρ hf e0 e1 => upon_is (by have hb0 := x50; go_simp))) (by go_frame; rfl) (by simp only [List.nil_append, List.cons_append]; rfl) ?_
  refine walkT_is (wantedN rfl) (fun w' hC hd => tame_move _ (.inl rfl) rfl) (by go_frame; rfl) (by simp only [List.nil_append, List.cons_append]; rfl) ?_
  refine walkT_is (wantedT hops rfl rfl rfl rfl) (fun w' hC hd => tame_move _ (.inl rfl) rfl) (by go_frame; rfl) (by simp only [List.nil_append, List.cons_append]; rfl) ?_
  refine walkT_is (wantedT hops rfl rfl rfl rfl) (fun w' hC hd => tame_1 5 (.pointer (some ⟨w1.heap.size, 0, none⟩)) rfl (fun ρ hρ hf e0 => upon_is (by go_simp))) (by go_frame; rfl) (by simp only [List.nil_append, List.cons_append]; rfl) ?_
  refine walkT_is (wantedT hops rfl rfl rfl rfl) (fun w' hC hd => tame_1 53 (.pointer (some ⟨w1.heap.size, 4, none⟩)) rfl (fun ρ hρ hf e0 => upon_is (by have hc0 := a4 w' hC; go_simp))) (by go_frame; rfl) (by simp only [List.nil_append, List.cons_append]; rfl) ?_
  refine walkT_is (wantedT hops rfl rfl rfl rfl) (fun w' hC hd => tame_1 54 (.int .i64 ep) rfl (fun ρ hρ hf e0 => upon_is (by have hb0 := x46; go_simp))) (by go_frame; rfl) (by simp only [List.nil_append, List.cons_append]; rfl) ?_
  refine walkT_is (wantedT hops rfl rfl rfl rfl) (fun w' hC hd => tame_2 52 (.int .i64 ld) 55 (.int .i64 (2 * ep)) rfl rfl (fun ρ hρ hf e0 e1 => upon_is (by have hb0 := x56; go_simp))) (by go_frame; rfl) (by simp only [List.nil_append, List.cons_append]; rfl) ?_
  refine walkT_is (wantedN rfl) (fun w' hC hd => tame_pick _ _ _ true rfl rfl rfl) (by go_frame; rfl) (by simp only [List.nil_append, List.cons_append]; rfl) ?_
  refine walkT_is (wantedN rfl) (fun w' hC hd => tame_move _ (.inl rfl) rfl) (by go_frame; rfl) (by simp only [List.nil_append, List.cons_append]; rfl) ?_
  refine walkT_is (wantedT hops rfl rfl rfl rfl) (fun w' hC hd => tame_1 5 (.pointer (some ⟨w1.heap.size, 0, none⟩)) rfl (fun ρ hρ hf e0 => upon_is (by go_simp))) (by go_frame; rfl) (by simp only [List.nil_append, List.cons_append]; rfl) ?_
  refine walkT_is (wantedT hops rfl rfl rfl rfl) (fun w' hC hd => tame_1 59 (.pointer (some ⟨w1.heap.size, 5, none⟩)) rfl (fun ρ hρ hf e0 => upon_is (by have hc0 := a5 w' hC; go_simp))) (by go_frame; rfl) (by simp only [List.nil_append, List.cons_append]; rfl) ?_
  refine walkT_is (wantedT hops rfl rfl rfl rfl) (fun w' hC hd => tame_1 60 (.int .i64 dr) rfl (fun ρ hρ hf e0 => upon_is (by have hb0 := x61; go_simp))) (by go_frame; rfl) (by simp only [List.nil_append, List.cons_append]; rfl) ?_
  refine walkT_is (wantedT hops rfl rfl rfl rfl) (fun w' hC hd => tame_1 61 (.int .i64 (dr * 3)) rfl (fun ρ hρ hf e0 => upon_is (by have hb0 := x62; go_simp))) (by go_frame; rfl) (by simp only [List.nil_append, List.cons_append]; rfl) ?_
  refine walkT_is (wantedT hops rfl rfl rfl rfl) (fun w' hC hd => tame_1 5 (.pointer (some ⟨w1.heap.size, 0, none⟩)) rfl (fun ρ hρ hf e0 => upon_is (by go_simp))) (by go_frame; rfl) (by simp only [List.nil_append, List.cons_append]; rfl) ?_
  refine walkT_is (wantedT hops rfl rfl rfl rfl) (fun w' hC hd => tame_1 63 (.pointer (some ⟨w1.heap.size, 4, none⟩)) rfl (fun ρ hρ hf e0 => upon_is (by have hc0 := a4 w' hC; go_simp))) (by go_frame; rfl) (by simp only [List.nil_append, List.cons_append]; rfl) ?_
  refine walkT_is (wantedT hops rfl rfl rfl rfl) (fun w' hC hd => tame_2 62 (.int .i64 (dr * 3 + 4)) 64 (.int .i64 ep) rfl rfl (fun ρ hρ hf e0 e1 => upon_is (by have hb0 := x65; go_simp))) (by go_frame; rfl) (by simp only [List.nil_append, List.cons_append]; rfl) ?_
  refine walkT_is (wantedN rfl) (fun w' hC hd => tame_pick _ _ _ true rfl rfl rfl) (by go_frame; rfl) (by simp only [List.nil_append, List.cons_append]; rfl) ?_
  refine walkT_is (wantedN rfl) (fun w' hC hd => tame_move _ (.inl rfl) rfl) (by go_frame; rfl) (by simp only [List.nil_append, List.cons_append]; rfl) ?_
  refine walkT_is (wantedT hops rfl rfl rfl rfl) (fun w' hC hd => tame_1 2 (.pointer (some ⟨w.heap.size, 0, none⟩)) rfl (fun ρ hρ hf e0 => upon_is (by have hc0 := c0 w' hC; have hc1 := c1 w' hC; have hc2 := c2 w' hC; have hc3 := c3 w' hC; go_simp))) (by go_frame; rfl) (by simp only [List.nil_append, List.cons_append]; rfl) ?_
  refine walkT_is (wantedT hops rfl rfl rfl rfl) (fun w' hC hd => tame_move _ (.inl rfl) rfl) (by go_frame; rfl) (by simp only [List.nil_append, List.cons_append]; rfl) ?_
  refine walkT_is (wantedT hops rfl rfl rfl rfl) (fun w' hC hd => tame_2 68 (.agg #[.int .i64 N, .int .i64 W, .int .i64 R, .int .i64 K]) 69 (.int .i64 b) rfl rfl (fun ρ hρ hf e0 e1 => upon_call_below (f := 8) (by go_simp) (HP.out w'))) (by go_frame; rfl) (by simp only [List.nil_append, List.cons_append]; rfl) ?_
  refine walkT_is (wantedT hops rfl rfl rfl rfl) (fun w' hC hd => tame_move _ (.inl rfl) rfl) (by go_frame; rfl) (by simp only [List.nil_append, List.cons_append]; rfl) ?_
  refine walkT_is (wantedT hops rfl rfl rfl rfl) (fun w' hC hd => tame_1 2 (.pointer (some ⟨w.heap.size, 0, none⟩)) rfl (fun ρ hρ hf e0 => upon_is (by go_simp))) (by go_frame; rfl) (by simp only [List.nil_append, List.cons_append]; rfl) ?_
  refine walkT_is (wantedT hops rfl rfl rfl rfl) (fun w' hC hd => tame_1 72 (.pointer (some ⟨w.heap.size, 3, none⟩)) rfl (fun ρ hρ hf e0 => upon_is (by have hc0 := c3 w' hC; go_simp))) (by go_frame; rfl) (by simp only [List.nil_append, List.cons_append]; rfl) ?_
  refine walkT_is (wantedT hops rfl rfl rfl rfl) (fun w' hC hd => tame_1 2 (.pointer (some ⟨w.heap.size, 0, none⟩)) rfl (fun ρ hρ hf e0 => upon_is (by go_simp))) (by go_frame; rfl) (by simp only [List.nil_append, List.cons_append]; rfl) ?_
  refine walkT_is (wantedT hops rfl rfl rfl rfl) (fun w' hC hd => tame_1 74 (.pointer (some ⟨w.heap.size, 1, none⟩)) rfl (fun ρ hρ hf e0 => upon_is (by have hc0 := c1 w' hC; go_simp))) (by go_frame; rfl) (by simp only [List.nil_append, List.cons_append]; rfl) ?_
  refine walkT_is (wantedT hops rfl rfl rfl rfl) (fun w' hC hd => tame_2 73 (.int .i64 K) 75 (.int .i64 W) rfl rfl (fun ρ hρ hf e0 e1 => upon_is (by have hb0 := x76; go_simp))) (by go_frame; rfl) (by simp only [List.nil_append, List.cons_append]; rfl) ?_
  refine walkT_is (wantedT hops rfl rfl rfl rfl) (fun w' hC hd => tame_2 71 (.int .i64 b) 76 (.int .i64 (K + W)) rfl rfl (fun ρ hρ hf e0 e1 => upon_is (by have hb0 := x77; go_simp))) (by go_frame; rfl) (by simp only [List.nil_append, List.cons_append]; rfl) ?_
  refine walkT_is (wantedT hops rfl rfl rfl rfl) (fun w' hC hd => tame_2 70 (.int .i64 p) 77 (.int .i64 (b * (K + W))) rfl rfl (fun ρ hρ hf e0 e1 => upon_is (by have hb0 := x78; go_simp))) (by go_frame; rfl) (by simp only [List.nil_append, List.cons_append]; rfl) ?_
  refine walkT_is (wantedN rfl) (fun w' hC hd => tame_pick _ _ _ true rfl rfl rfl) (by go_frame; rfl) (by simp only [List.nil_append, List.cons_append]; rfl) ?_
  refine walkT_is (wantedN rfl) (fun w' hC hd => tame_move _ (.inl rfl) rfl) (by go_frame; rfl) (by simp only [List.nil_append, List.cons_append]; rfl) ?_
  refine walkT_is (wantedT hops rfl rfl rfl rfl) (fun w' hC hd => tame_1 5 (.pointer (some ⟨w1.heap.size, 0, none⟩)) rfl (fun ρ hρ hf e0 => upon_is (by go_simp))) (by go_frame; rfl) (by simp only [List.nil_append, List.cons_append]; rfl) ?_
  refine walkT_is (wantedT hops rfl rfl rfl rfl) (fun w' hC hd => tame_1 81 (.pointer (some ⟨w1.heap.size, 0, none⟩)) rfl (fun ρ hρ hf e0 => upon_is (by have hc0 := a0 w' hC; go_simp))) (by go_frame; rfl) (by simp only [List.nil_append, List.cons_append]; rfl) ?_
  refine walkT_is (wantedT hops rfl rfl rfl rfl) (fun w' hC hd => tame_1 2 (.pointer (some ⟨w.heap.size, 0, none⟩)) rfl (fun ρ hρ hf e0 => upon_is (by go_simp))) (by go_frame; rfl) (by simp only [List.nil_append, List.cons_append]; rfl) ?_
  refine walkT_is (wantedT hops rfl rfl rfl rfl) (fun w' hC hd => tame_1 83 (.pointer (some ⟨w.heap.size, 2, none⟩)) rfl (fun ρ hρ hf e0 => upon_is (by have hc0 := c2 w' hC; go_simp))) (by go_frame; rfl) (by simp only [List.nil_append, List.cons_append]; rfl) ?_
  refine walkT_is (wantedT hops rfl rfl rfl rfl) (fun w' hC hd => tame_1 84 (.int .i64 R) rfl (fun ρ hρ hf e0 => upon_is (by have hb0 := x85; go_simp))) (by go_frame; rfl) (by simp only [List.nil_append, List.cons_append]; rfl) ?_
  refine walkT_is (wantedT hops rfl rfl rfl rfl) (fun w' hC hd => tame_1 2 (.pointer (some ⟨w.heap.size, 0, none⟩)) rfl (fun ρ hρ hf e0 => upon_is (by go_simp))) (by go_frame; rfl) (by simp only [List.nil_append, List.cons_append]; rfl) ?_
  refine walkT_is (wantedT hops rfl rfl rfl rfl) (fun w' hC hd => tame_1 86 (.pointer (some ⟨w.heap.size, 0, none⟩)) rfl (fun ρ hρ hf e0 => upon_is (by have hc0 := c0 w' hC; go_simp))) (by go_frame; rfl) (by simp only [List.nil_append, List.cons_append]; rfl) ?_
  refine walkT_is (wantedT hops rfl rfl rfl rfl) (fun w' hC hd => tame_1 2 (.pointer (some ⟨w.heap.size, 0, none⟩)) rfl (fun ρ hρ hf e0 => upon_is (by go_simp))) (by go_frame; rfl) (by simp only [List.nil_append, List.cons_append]; rfl) ?_
  refine walkT_is (wantedT hops rfl rfl rfl rfl) (fun w' hC hd => tame_1 88 (.pointer (some ⟨w.heap.size, 1, none⟩)) rfl (fun ρ hρ hf e0 => upon_is (by have hc0 := c1 w' hC; go_simp))) (by go_frame; rfl) (by simp only [List.nil_append, List.cons_append]; rfl) ?_
  refine walkT_is (wantedT hops rfl rfl rfl rfl) (fun w' hC hd => tame_2 87 (.int .i64 N) 89 (.int .i64 W) rfl rfl (fun ρ hρ hf e0 e1 => upon_is (by have hb0 := x90; go_simp))) (by go_frame; rfl) (by simp only [List.nil_append, List.cons_append]; rfl) ?_
  refine walkT_is (wantedT hops rfl rfl rfl rfl) (fun w' hC hd => tame_2 85 (.int .i64 (24 + R)) 90 (.int .i64 (N * W)) rfl rfl (fun ρ hρ hf e0 e1 => upon_is (by have hb0 := x91; go_simp))) (by go_frame; rfl) (by simp only [List.nil_append, List.cons_append]; rfl) ?_
  refine walkT_is (wantedT hops rfl rfl rfl rfl) (fun w' hC hd => tame_2 82 (.int .i64 wd) 91 (.int .i64 (24 + R + N * W)) rfl rfl (fun ρ hρ hf e0 e1 => upon_is (by have hb0 := x92; go_simp))) (by go_frame; rfl) (by simp only [List.nil_append, List.cons_append]; rfl) ?_
  refine walkT_is (wantedN rfl) (fun w' hC hd => tame_pick _ _ _ true rfl rfl rfl) (by go_frame; rfl) (by simp only [List.nil_append, List.cons_append]; rfl) ?_
  refine walkT_is (wantedN rfl) (fun w' hC hd => tame_move _ (.inr rfl) rfl) (by go_frame; rfl) (by simp only [List.nil_append, List.cons_append]; rfl) ?_
  refine walkT_nil fun w6 hC6 _ => hK _ _ ?_
  have HB6 := Lib.hid (below_step ((HB2.out.alloc HB2.out.size _).alloc (by have := HB2.out.size; simp; omega) _) hC6)
  clear c0 c1 c2 c3 a0 a4 a5 hC6 x46 x49 x50 x56 x61 x62 x65 x76 x77 x78 x85 x90 x91 x92
  go_wp2_with fail
  go_ret
  exact ⟨rfl, HB6.out⟩

theorem walk (N W R K blocks : Int) (w : World) (hn : (Lit.int .i64 N).wf = true) (hw : (Lit.int .i64 W).wf = true) (hr : (Lit.int .i64 R).wf = true) (hk : (Lit.int .i64 K).wf = true) (hb : (Lit.int .i64 blocks).wf = true) :
    Calls Try.prog 6 #[.agg #[.int .i64 N, .int .i64 W, .int .i64 R, .int .i64 K], .int .i64 blocks] w fun e w' => e = .returned (.bool true) ∧ Below w.heap.size w w' := by
  cases hq : mayB N W R K with
  | false => exact walk_no N W R K blocks w hq
  | true =>
    have h := may_of hq
    have n0 := h.n0; have n1 := h.n1; have w0 := h.w0; have w1 := h.w1; have r0 := h.r0; have r1 := h.r1; have k0 := h.k0; have k1 := h.k1
    have hnw := nw_bd h
    have hd := drain_bd h
    have he := epoch_bd h
    have hl := lag_bd h
    have hs := settle_bd h
    have hu := upP_bd (a := epochI N W) (b := K) (by omega) k0
    have hv := upP_bd (a := 2 * epochI N W + drainI N W) (b := K) (by omega) k0
    have hlag : lagI N W K = 2 * upP (epochI N W) K + 2 * (W - 7) := rfl
    have hset : settleI N W K = upP (2 * epochI N W + drainI N W) K + 2 := rfl
    have hep : epochI N W = 3 * drainI N W + 4 := rfl
    have hc := clamp_bd (n := blocks) (show 1 ≤ W - 7 by omega)
    have hm := mul_le_of (a := clampI blocks 1 (W - 7)) (b := K + W) (A := 249) (B := 65792) (by omega) (by omega) (by omega) (by omega)
    have hpz : pauseI N W R K 1 (clampI blocks 1 (W - 7)) = 512 + clampI blocks 1 (W - 7) * eachI W K := by
      unfold pauseI
      rw [if_pos hq, if_pos rfl, clamp_in (n := clampI blocks 1 (W - 7)) (by omega) (by omega)]
    have hpq : clampI blocks 1 (W - 7) * (K + W) ≤ clampI blocks 1 (W - 7) * eachI W K := Int.mul_le_mul_of_nonneg_left (by unfold eachI; omega) (by omega)
    have m4 : mulL [settleI N W K - 2, K] = K * upP (2 * epochI N W + drainI N W) K := by
      rw [show settleI N W K - 2 = upP (2 * epochI N W + drainI N W) K by omega, mul2_id (by omega) (by omega) (by omega) (by omega) (by rw [Int.mul_comm]; omega), Int.mul_comm]
    have m5 : mulL [lagI N W K - 2 * (W - 7), K] = 2 * (K * upP (epochI N W) K) := by
      rw [show lagI N W K - 2 * (W - 7) = 2 * upP (epochI N W) K by omega]
      have e : 2 * upP (epochI N W) K * K = 2 * (K * upP (epochI N W) K) := by rw [Int.mul_assoc, Int.mul_comm (upP _ _) K]
      rw [mul2_id (by omega) (by omega) (by omega) (by omega) (by rw [e]; omega), e]
    exact walk_yes N W R K blocks (wordsI N W R) (fieldsI W) (epochI N W) (drainI N W) (lagI N W K) (settleI N W K) _ _ _ _ w (Lib.hid fun w' => of_yes N W R K w' h) (Lib.hid fun w' => pause_any N W R K 1 _ w') (Lib.hid m4) (Lib.hid m5) (Lib.hid rfl)
      (by omega) hs.2 (by omega) hl.2 w0 w1 (IntWalk.i64_in _ (by omega)) (IntWalk.i64_in _ (by omega)) (by omega) (by omega) (IntWalk.i64_in _ (by omega)) (IntWalk.i64_in _ (by omega)) (by rw [hep, beq_iff_eq]; omega)
      (IntWalk.i64_in _ (by omega)) (IntWalk.i64_in _ (by omega)) (by rw [hpz]; omega) (IntWalk.i64_in _ (by omega)) (IntWalk.i64_in _ (by omega)) (IntWalk.i64_in _ (by omega)) (by rw [beq_iff_eq]; rfl)

/-! ### The row -/
set_option maxRecDepth 100000 in
theorem lifted (os : Os) (started : os.Started) (H : Type) (enc : TypeId × Value → H) :
    ReturnsInHanded {} Try.checked os 6 .any (Rows.wholeNumbersSpec.pre6 enc Try.prog Try.f6 Rows.wholeNumbersRow.domain false) (Rows.wholeNumbersSpec.post enc Try.prog Try.f6 false true false false) := by
  refine returnsInHanded_of_change (C := Try.checked) own started (by kernel_rfl) Try.func6
    (ChangeSpec.witness6 (enc := enc) (C := Try.checked) false ⟨#[], #[.agg #[.int .i64 0, .int .i64 0, .int .i64 0, .int .i64 0], .int .i64 0], []⟩ 8 (by kernel_rfl) (by kernel_rfl) (by kernel_rfl) (by kernel_rfl)) ?_
  intro W base args ds gs before hval0 hW hcnd _
  have hval : ∀ (j : Nat) t v, Try.f6.params[j]? = some t → args[j]? = some v → Value.okWide Try.prog W .any base t v := hval0
  have hW' := hW
  obtain ⟨p, q, hA0, hV, rfl, hfz, hnd⟩ := hW
  have hA : DataW.TrodAll enc Try.prog W 0 (fun _ => true) true Try.f6.params.toList args.toList ds p := hA0
  rw [Try.params6] at hA hval
  obtain ⟨v0, vs0, d0, ds0, p0, q0, hargs, rfl, rfl, h0, r0⟩ := trodAll_cons hA
  obtain ⟨v1, vs1, d1, ds1, p1, q1, rfl, rfl, rfl, h1, r1⟩ := trodAll_cons r0
  obtain ⟨rfl, rfl, rfl⟩ := trodAll_nil r1
  obtain rfl : args = #[v0, v1] := by cases args; simp_all
  obtain ⟨rfl, rfl⟩ := trodVars_none hV
  have k0 := h0
  have lt0 : ∀ x ∈ p0, x.block < W.heap.size := by obtain ⟨m, hm⟩ := k0; exact DataW.trod_lt m _ _ _ hm
  obtain ⟨c00, c01, c02, c03, y00, y01, y02, y03, m0, rfl, hd0, hp0, hy00, hy01, hy02, hy03⟩ := open_agg4 Try.underlying23 (by kernel_rfl) (by kernel_rfl) (hval 0 23 v0 rfl rfl) h0
  obtain ⟨a00, e00, hdd00, w00⟩ := DataW.trod_int Try.underlying3 hy00
  obtain ⟨a01, e01, hdd01, w01⟩ := DataW.trod_int Try.underlying3 hy01
  obtain ⟨a02, e02, hdd02, w02⟩ := DataW.trod_int Try.underlying3 hy02
  obtain ⟨a03, e03, hdd03, w03⟩ := DataW.trod_int Try.underlying3 hy03
  simp at e00 e01 e02 e03
  subst e00 e01 e02 e03
  have k1 := h1
  have lt1 : ∀ x ∈ p1, x.block < W.heap.size := by obtain ⟨m, hm⟩ := k1; exact DataW.trod_lt m _ _ _ hm
  obtain ⟨a1, rfl, hd1, hp1, w1⟩ := open_int Try.underlying3 (hval 1 3 v1 rfl rfl) h1
  clear hA0 hval0
  refine (walk a00 a01 a02 a03 a1 W w00 w01 w02 w03 w1).mono fun e W' ⟨he, bel⟩ => ?_
  subst he
  exact ⟨_, rfl, _, _, _, [], _, [], hW', trodAll_mk1 (shut_bool Try.underlying4 _), (trodAll_cons_mk (Below.trod laidOut (by kernel_rfl) (of_decide_eq_true (by kernel_rfl)) k0 bel lt0) (trodAll_cons_mk (Below.trod laidOut (by kernel_rfl) (of_decide_eq_true (by kernel_rfl)) k1 bel lt1) trodAll_mk0)), rfl, bel.frame _, fun h => by cases h⟩

theorem over : Rows.wholeNumbersRow.holds Try.pinned (OpenSpec.ofChange Rows.wholeNumbersSpec) :=
  OpenClaim.holds_of_wide 6 Try.f6 rfl rfl rfl rfl rfl rfl rfl ⟨rfl, rfl, rfl, rfl, rfl⟩ rfl rfl rfl rfl rfl (by kernel_rfl) Try.func6 (by kernel_rfl)
    (of_decide_eq_true (by kernel_rfl)) (by unfold Func.isWrapper; first | (rw [if_pos (by decide +kernel)]; kernel_rfl) | (rw [if_neg (by decide +kernel)]; exact ⟨rfl, rfl⟩))
    (fun os started H enc _ => lifted os started H enc)

theorem proved : Rows.WholeNumbersSaid := over
#print axioms proved
end Go.Proofs.Ytknfhkfbbnekjaa.wholeNumbers
