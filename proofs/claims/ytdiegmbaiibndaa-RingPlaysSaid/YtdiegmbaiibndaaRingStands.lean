/-
  Layer 9: the law's own look at registers, links and tags; a row without a number.
-/
import Derived.Test.YtdiegmbaiibndaaRingLike
import Derived.Test.YtdiegmbaiibndaaTame
namespace Go.Proofs.Ytdiegmbaiibndaa.Pk
open Go.RowKit
set_option linter.unusedVariables false
set_option linter.unusedSimpArgs false

set_option maxHeartbeats 2000000 in
set_option maxRecDepth 100000 in
theorem rstands_any (p : Pl) (n : Nat) (s : St) (ks : List Int) (l : List Nat) (ak : Option Addr) (ck : Nat) (a : Option Addr) (cap : Nat) (w : World) (hG : G w p (cfR n) s) (hL : LikeR (cfR n) ks l s.zs) (hn : n = ks.length) (hk : Kinds ks) (hrk : Row w .u8 ak ks) (hr : Row w .i64 a (ints l)) (hl : l.length ≤ 10000) :
    Calls Try.prog 10 #[.pointer (some ⟨p.a, 0, none⟩), .slice ak n ck, .slice a l.length cap] w fun e w' => e = .returned (.bool true) ∧ Below w.heap.size w w' := by
  have hN : n ≤ 1048576 := hG.may.n.2
  have hf := ints_few hL.ring.lt hN
  have HEn : Hid (∀ w', Row w' .i64 a (ints l) → Calls Try.prog 29 #[.slice a l.length cap] w' fun e w'' => e = .returned (.tuple #[.int .i64 (fstI l), .int .i64 (lstI l), .int .i64 (l.length : Int)]) ∧ Drw w' w'') := Lib.hid (fun w' hr' => by
    have := rcEnds_any a cap (ints l) w' hr' (by rw [ints_length]; exact hl) hf
    rw [(ints_end l).1, (ints_end l).2, ints_length] at this
    exact this)
  have HNx : Hid (∀ w' (i : Nat), i ≤ 10000 → Row w' .i64 a (ints l) → Calls Try.prog 32 #[.slice a l.length cap, .int .i64 (i : Int)] w' fun e w'' => e = .returned (.int .i64 (nextI (ints l) i)) ∧ w' = w'') := Lib.hid (fun w' i hi hr' => by
    have := rcNext_any a cap (ints l) i w' hr' (by rw [ints_length]; exact hl) hf hi
    rw [ints_length] at this
    exact this)
  have HAh : Hid (∀ w' (i : Nat), i ≤ l.length → Row w' .i64 a (ints l) → Calls Try.prog 31 #[.slice a l.length cap, .int .i64 (i : Int)] w' fun e w'' => e = .returned (.int .i64 (rgAheadI (ints l) i)) ∧ w' = w'') := Lib.hid (fun w' i hi hr' =>
    rcAhead_any a cap l.length (ints l) i w' hr' (by rw [ints_length]) hl hf hi)
  have HHas : Hid (∀ w' (b : Int), Row w' .i64 a (ints l) → Calls Try.prog 23 #[.slice a l.length cap, .int .i64 b] w' fun e w'' => e = .returned (.bool (hasB (ints l) b)) ∧ w' = w'') := Lib.hid (fun w' b hr' => by
    have := rcHas_any a cap (ints l) b w' hr' (by rw [ints_length]; unfold maxLen; omega)
    rw [ints_length] at this
    exact this)
  have HLk := Lib.hid (fun (i : Nat) (hi : i < l.length) => hL.links hi)
  have HL := Lib.hid hL
  have HF := Lib.hid hf
  have HWf := Lib.hid hG.wf
  have HK := Lib.hid hk
  have R7 := Lib.hid hL.ring.r7
  have R8 := Lib.hid hL.ring.r8
  have R9 := Lib.hid hL.ring.r9
  have HG := Lib.hid hG
  have HR := Lib.hid hr
  have HRk := Lib.hid hrk
  have HN := Lib.hid hn
  have HM := Lib.hid hG.may
  clear hG hL hf hr hrk hk hn
  go_enter Try.func10, Try.ntmps10
  have HT0 : Hid (Below w.heap.size w w) := Lib.hid (Below.refl _ _)
  go_wp2_with fail
  refine (HEn.out _ HR.out).mono ?_
  rintro e wm1 ⟨rfl, hd⟩
  have HG1 := Lib.hid (HG.out.drw hd)
  have HT1 : Hid (Below w.heap.size w wm1) := Lib.hid (below_step HT0.out hd.new)
  have HR1 := Lib.hid (HR.out.drw hd)
  have HRk1 := Lib.hid (HRk.out.drw hd)
  clear hd
  go_wp2_with fail
  refine (seeregR p (cfR n) s 7 _ _ _ HG1.out (by decide) rfl R7.out).mono ?_
  rintro e wm0 ⟨rfl, rfl⟩
  go_wp2_with fail
  refine (seeregR p (cfR n) s 8 _ _ _ HG1.out (by decide) rfl R8.out).mono ?_
  rintro e wm0 ⟨rfl, rfl⟩
  go_wp2_with fail
  refine (seeregR p (cfR n) s 9 _ _ _ HG1.out (by decide) rfl R9.out).mono ?_
  rintro e wm0 ⟨rfl, rfl⟩
  go_wp2_with fail
  go_loopw [40] (fun i wr => ∃ j : Nat, j ≤ l.length ∧ i = .int .i64 j ∧ Below w.heap.size w wr) (fun i _ => l.length - (intOf i).toNat)
  case atStart => exact ⟨0, Nat.zero_le _, rfl, HT1.out⟩
  case round =>
    obtain ⟨j, hj, rfl, hb⟩ := hrel
    have HB := Lib.hid hb
    clear hb
    by_cases hlt : j < l.length
    · obtain ⟨g, off, rfl, hg, hc⟩ := HR.out j (by rw [ints_length]; exact hlt)
      rw [ints_nth hlt] at hc
      have hc' := (HB.out.cell (p := ⟨g, off + j, none⟩) hg).trans hc
      have hbl := HL.out.ring.lt _ (List.getElem_mem hlt)
      obtain ⟨h6, h7⟩ := HLk.out j hlt
      have hw6 := HWf.out (adr (cfR n) l[j] 6)
      have hw7 := HWf.out (adr (cfR n) l[j] 7)
      rw [h6] at hw6
      rw [h7] at hw7
      have H6 := Lib.hid h6
      have H7 := Lib.hid h7
      have i1 : IntKind.i64.wrap (nextI (ints l) j) = nextI (ints l) j := IntWalk.i64_in _ (by omega)
      have i2 : IntKind.i64.wrap (rgAheadI (ints l) j) = rgAheadI (ints l) j := IntWalk.i64_in _ (by omega)
      have hjl : j ≤ l.length := by omega
      clear hc h6 h7
      generalize l[j] = b at *
      have HRj := Lib.hid (HR.out.below HB.out (Nat.le_refl _))
      have HGj := Lib.hid (HG.out.later HB.out)
      go_wp2_with fail
      refine (seewordW p (cfR n) s b 6 _ _ _ _ HGj.out hbl (by simp [cfR]) rfl rfl H6.out).mono ?_
      rintro e wm2 ⟨rfl, hd⟩
      have HG2 := Lib.hid (HGj.out.drw hd)
      have HT2 : Hid (Below w.heap.size w wm2) := Lib.hid (below_step HB.out hd.new)
      have HR2 := Lib.hid (HRj.out.drw hd)
      clear hd
      go_wp2_with fail
      refine (HAh.out _ j hjl HR2.out).mono ?_
      rintro e wm0 ⟨rfl, rfl⟩
      go_wp2_with fail
      refine (seewordW p (cfR n) s b 7 _ _ _ _ HG2.out hbl (by simp [cfR]) rfl rfl H7.out).mono ?_
      rintro e wm3 ⟨rfl, hd⟩
      have HG3 := Lib.hid (HG2.out.drw hd)
      have HT3 : Hid (Below w.heap.size w wm3) := Lib.hid (below_step HT2.out hd.new)
      have HR3 := Lib.hid (HR2.out.drw hd)
      clear hd
      go_wp2_with fail
      refine (HNx.out _ j (by omega) HR3.out).mono ?_
      rintro e wm0 ⟨rfl, rfl⟩
      go_wp2_with fail
      go_roundw
      case rel => exact ⟨j + 1, by omega, by go_num, HT3.out⟩
      case measure => simp [intOf]; omega
    · go_wp2_with fail
      go_loopw [66] (fun i wr => ∃ j : Nat, j ≤ n ∧ i = .int .i64 j ∧ Below w.heap.size w wr) (fun i _ => n - (intOf i).toNat)
      case atStart => exact ⟨0, Nat.zero_le _, rfl, HB.out⟩
      case round =>
        obtain ⟨b, hb, rfl, hbel⟩ := hrel
        have HBb := Lib.hid hbel
        clear hbel
        by_cases hbn : b < n
        · obtain ⟨g, off, rfl, hg, hc⟩ := HRk.out b (by rw [← HN.out]; exact hbn)
          have hc' := (HBb.out.cell (p := ⟨g, off + b, none⟩) hg).trans hc
          have hkb := HK.out b
          have HRj := Lib.hid (HR.out.below HBb.out (Nat.le_refl _))
          have HGj := Lib.hid (HG.out.later HBb.out)
          have HTg := Lib.hid (HL.out.tags b hbn)
          have HId := Lib.hid (HL.out.idle b hbn)
          have HKd := Lib.hid (HL.out.kind (b := b) hbn)
          clear hc hlt hj
          go_wp2_with fail
          refine (tagOf_any _ _ hkb.1 hkb.2).mono ?_
          rintro e wm2 ⟨rfl, hb⟩
          have HG2 := Lib.hid (HGj.out.later hb)
          have HT2 : Hid (Below w.heap.size w wm2) := Lib.hid (below_step HBb.out hb)
          have HR2 := Lib.hid (HRj.out.later hb)
          clear hb
          have HTa := Lib.hid (Blk.new wm2 #[.int .i64 (nth ks b % 4), .int .i64 (tgC (nth ks b)), .int .i64 0, .int .i64 (tgS (nth ks b)), .int .i64 0, .int .i64 0, .int .i64 0] 56)
          have HBa := Lib.hid (below_step HT2.out (below_new wm2 (.cells #[.int .i64 (nth ks b % 4), .int .i64 (tgC (nth ks b)), .int .i64 0, .int .i64 (tgS (nth ks b)), .int .i64 0, .int .i64 0, .int .i64 0] 56)))
          have HGa := Lib.hid (HG2.out.alloc (.cells #[.int .i64 (nth ks b % 4), .int .i64 (tgC (nth ks b)), .int .i64 0, .int .i64 (tgS (nth ks b)), .int .i64 0, .int .i64 0, .int .i64 0] 56))
          have HRa := Lib.hid (HR2.out.alloc (.cells #[.int .i64 (nth ks b % 4), .int .i64 (tgC (nth ks b)), .int .i64 0, .int .i64 (tgS (nth ks b)), .int .i64 0, .int .i64 0, .int .i64 0] 56))
          have HNi : Hid (∀ i, ofG p i → ¬ i = (wm2).heap.size) := Lib.hid (fun i hi e => by have := HG2.out.ofG_lt hi; omega)
          by_cases hin : b ∈ l
          · have HH : Hid (hasB (ints l) (b : Int) = true) := Lib.hid (by rw [ints_has]; exact decide_eq_true hin)
            have hhk := HKd.out.1 (HL.out.ring.hd b hin)
            have HRt := Lib.hid (tag_right1 hhk)
            have HV : Hid (nth s.zs (adr (cfR n) b 0) = packI (nth ks b % 4) (tgC (nth ks b)) 0 (tgS (nth ks b)) 0 1 0) := Lib.hid (by rw [HTg.out, if_pos hin, tag_one])
            clear hkb hin hhk
            generalize nth ks b % 4 = t0 at *
            generalize tgC (nth ks b) = t1 at *
            generalize tgS (nth ks b) = t3 at *
            go_wp2_with fail
            refine (HHas.out _ _ HRa.out).mono ?_
            rw [HH.out]
            rintro e wx ⟨rfl, rfl⟩
            clear HTa HBa HGa HRa
            have hBk := Blk.new wm2 #[.int .i64 t0, .int .i64 t1, .int .i64 0, .int .i64 t3, .int .i64 0, .int .i64 1, .int .i64 0] 56
            have hBb := below_step HT2.out (below_new wm2 (.cells #[.int .i64 t0, .int .i64 t1, .int .i64 0, .int .i64 t3, .int .i64 0, .int .i64 1, .int .i64 0] 56))
            have hGb := HG2.out.alloc (.cells #[.int .i64 t0, .int .i64 t1, .int .i64 0, .int .i64 t3, .int .i64 0, .int .i64 1, .int .i64 0] 56)
            go_wp2_with fail
            generalize hw4 : wm2.alloc _ = w4 at *
            generalize hq4 : wm2.heap.size = q at *
            have HBk := Lib.hid hBk
            have HGb := Lib.hid hGb
            have HBb := Lib.hid hBb
            have hql : q < w4.heap.size := hBk.lt
            have z0 := hBk.cell 0 rfl
            have z1 := hBk.cell 1 rfl
            have z2 := hBk.cell 2 rfl
            have z3 := hBk.cell 3 rfl
            have z4 := hBk.cell 4 rfl
            have z5 := hBk.cell 5 rfl
            have z6 := hBk.cell 6 rfl
            clear hBk hBb hGb hw4 hq4
            have z0 := fun w' (hC : Below w4.heap.size w4 w') => (hC.cell (p := ⟨q, 0, none⟩) hql).trans z0
            have z1 := fun w' (hC : Below w4.heap.size w4 w') => (hC.cell (p := ⟨q, 1, none⟩) hql).trans z1
            have z2 := fun w' (hC : Below w4.heap.size w4 w') => (hC.cell (p := ⟨q, 2, none⟩) hql).trans z2
            have z3 := fun w' (hC : Below w4.heap.size w4 w') => (hC.cell (p := ⟨q, 3, none⟩) hql).trans z3
            have z4 := fun w' (hC : Below w4.heap.size w4 w') => (hC.cell (p := ⟨q, 4, none⟩) hql).trans z4
            have z5 := fun w' (hC : Below w4.heap.size w4 w') => (hC.cell (p := ⟨q, 5, none⟩) hql).trans z5
            have z6 := fun w' (hC : Below w4.heap.size w4 w') => (hC.cell (p := ⟨q, 6, none⟩) hql).trans z6
            refine wp_region_tame_all [Fact.is (.pointer (some ⟨p.a, 0, none⟩)), Fact.is (.int .i64 ((b : Int))), Fact.is (.int .u32 (packI t0 t1 0 t3 0 1 0)), Fact.is (.agg #[.int .i64 t0, .int .i64 t1, .int .i64 0, .int .i64 t3, .int .i64 0, .int .i64 1, .int .i64 0]), Fact.is (.int .u32 (packI t0 t1 0 t3 0 1 0)), Fact.is (.bool false), Fact.is (.bool false), Fact.is (.bool true), Fact.is (.bool false), Fact.is (.bool false), Fact.is undef, Fact.is undef, Fact.is undef, Fact.is undef, Fact.is undef, Fact.is undef, Fact.is undef, Fact.is undef, Fact.is (.bool false), Fact.is (.bool false)] (by kernel_rfl) (by kernel_rfl) rfl (by kernel_rfl) (fun ops K2 hops hK => ?_)
            refine walkT_is (wantedN rfl) (fun w' hC hd => tame_move _ (.inl rfl) rfl) (by go_frame; rfl) (by simp only [List.nil_append, List.cons_append]; rfl) ?_
            refine walkT_is (wantedN rfl) (fun w' hC hd => tame_move _ (.inl rfl) rfl) (by go_frame; rfl) (by simp only [List.nil_append, List.cons_append]; rfl) ?_
            refine walkT_is (wantedN rfl) (fun w' hC hd => tame_2 78 (.pointer (some ⟨p.a, 0, none⟩)) 79 (.int .i64 ((b : Int))) rfl rfl (fun ρ hρ hf e0 e1 => upon_call_below (f := 18) (args := #[.pointer (some ⟨p.a, 0, none⟩), .int .i64 ((b : Int)), .int .i64 0]) (by go_simp) (seewordB p (cfR n) s b 0 (b : Int) 0 _ w' (HGb.out.later hC) hbn (by simp [cfR]) rfl rfl HV.out))) (by go_frame; rfl) (by simp only [List.nil_append, List.cons_append]; rfl) ?_
            refine walkT_is (wantedN rfl) (fun w' hC hd => tame_1 14 (.pointer (some ⟨q, 0, none⟩)) rfl (fun ρ hρ hf e0 => upon_is (by have hc0 := z0 w' hC; have hc1 := z1 w' hC; have hc2 := z2 w' hC; have hc3 := z3 w' hC; have hc4 := z4 w' hC; have hc5 := z5 w' hC; have hc6 := z6 w' hC; go_simp))) (by go_frame; rfl) (by simp only [List.nil_append, List.cons_append]; rfl) ?_
            refine walkT_is (wantedN rfl) (fun w' hC hd => tame_1 81 (.agg #[.int .i64 t0, .int .i64 t1, .int .i64 0, .int .i64 t3, .int .i64 0, .int .i64 1, .int .i64 0]) rfl (fun ρ hρ hf e0 => upon_call_below (f := 21) (by go_simp) (refPackT_any _ _ _ _ _ _ _ w' HRt.out))) (by go_frame; rfl) (by simp only [List.nil_append, List.cons_append]; rfl) ?_
            refine walkT_is (wantedN rfl) (fun w' hC hd => tame_2 80 (.int .u32 (packI t0 t1 0 t3 0 1 0)) 82 (.int .u32 (packI t0 t1 0 t3 0 1 0)) rfl rfl (fun ρ hρ hf e0 e1 => upon_is (by go_simp))) (by go_frame; rfl) (by simp only [List.nil_append, List.cons_append]; rfl) ?_
            refine walkT_is (wantedN rfl) (fun w' hC hd => tame_move _ (.inl rfl) rfl) (by go_frame; rfl) (by simp only [List.nil_append, List.cons_append]; rfl) ?_
            refine walkT_is (wantedT hops rfl rfl rfl rfl) (fun w' hC hd => tame_move _ (.inl rfl) rfl) (by go_frame; rfl) (by simp only [List.nil_append, List.cons_append]; rfl) ?_
            refine walkT_is (wantedT hops rfl rfl rfl rfl) (fun w' hC hd => tame_1 85 (.bool true) rfl (fun ρ hρ hf e0 => upon_is (by go_simp))) (by go_frame; rfl) (by simp only [List.nil_append, List.cons_append]; rfl) ?_
            refine walkT_is (wantedT hops rfl rfl rfl rfl) (fun w' hC hd => tame_move _ (.inl rfl) rfl) (by go_frame; rfl) (by simp only [List.nil_append, List.cons_append]; rfl) ?_
            refine walkT_skip (wantedF hops rfl rfl rfl rfl) (by go_frame; rfl) (by simp only [List.nil_append, List.cons_append]; rfl) ?_
            refine walkT_skip (wantedF hops rfl rfl rfl rfl) (by go_frame; rfl) (by simp only [List.nil_append, List.cons_append]; rfl) ?_
            refine walkT_skip (wantedF hops rfl rfl rfl rfl) (by go_frame; rfl) (by simp only [List.nil_append, List.cons_append]; rfl) ?_
            refine walkT_skip (wantedF hops rfl rfl rfl rfl) (by go_frame; rfl) (by simp only [List.nil_append, List.cons_append]; rfl) ?_
            refine walkT_skip (wantedF hops rfl rfl rfl rfl) (by go_frame; rfl) (by simp only [List.nil_append, List.cons_append]; rfl) ?_
            refine walkT_skip (wantedF hops rfl rfl rfl rfl) (by go_frame; rfl) (by simp only [List.nil_append, List.cons_append]; rfl) ?_
            refine walkT_skip (wantedF hops rfl rfl rfl rfl) (by go_frame; rfl) (by simp only [List.nil_append, List.cons_append]; rfl) ?_
            refine walkT_skip (wantedF hops rfl rfl rfl rfl) (by go_frame; rfl) (by simp only [List.nil_append, List.cons_append]; rfl) ?_
            refine walkT_is (wantedT hops rfl rfl rfl rfl) (fun w' hC hd => tame_pick _ _ _ false rfl rfl rfl) (by go_frame; rfl) (by simp only [List.nil_append, List.cons_append]; rfl) ?_
            refine walkT_is (wantedN rfl) (fun w' hC hd => tame_pick _ _ _ false rfl rfl rfl) (by go_frame; rfl) (by simp only [List.nil_append, List.cons_append]; rfl) ?_
            refine walkT_nil fun w7 hC7 _ => hK _ _ ?_
            have HB7 := Lib.hid (below_step HBb.out hC7)
            clear z0 z1 z2 z3 z4 z5 z6 hC7
            go_wp2_with fail
            go_roundw
            case rel => exact ⟨b + 1, by omega, by go_num, HB7.out⟩
            case measure => simp [intOf]; omega
          · have HH : Hid (hasB (ints l) (b : Int) = false) := Lib.hid (by rw [ints_has]; exact decide_eq_false hin)
            have HRt := Lib.hid (tag_right (nth ks b))
            have HV : Hid (nth s.zs (adr (cfR n) b 0) = packI (nth ks b % 4) (tgC (nth ks b)) 0 (tgS (nth ks b)) 0 0 0) := Lib.hid (by rw [HTg.out, if_neg hin]; unfold tagW; omega)
            have HI := Lib.hid (HId.out hin)
            clear hkb hin
            generalize nth ks b % 4 = t0 at *
            generalize tgC (nth ks b) = t1 at *
            generalize tgS (nth ks b) = t3 at *
            go_wp2_with fail
            refine (HHas.out _ _ HRa.out).mono ?_
            rw [HH.out]
            rintro e wx ⟨rfl, rfl⟩
            go_wp2_with fail
            have hBk := HTa.out
            have hBb := HBa.out
            have hGb := HGa.out
            generalize hw4 : wm2.alloc _ = w4 at *
            generalize hq4 : wm2.heap.size = q at *
            have HBk := Lib.hid hBk
            have HGb := Lib.hid hGb
            have HBb := Lib.hid hBb
            have hql : q < w4.heap.size := hBk.lt
            have z0 := hBk.cell 0 rfl
            have z1 := hBk.cell 1 rfl
            have z2 := hBk.cell 2 rfl
            have z3 := hBk.cell 3 rfl
            have z4 := hBk.cell 4 rfl
            have z5 := hBk.cell 5 rfl
            have z6 := hBk.cell 6 rfl
            clear hBk hBb hGb hw4 hq4 HTa HBa HGa HRa
            have z0 := fun w' (hC : Below w4.heap.size w4 w') => (hC.cell (p := ⟨q, 0, none⟩) hql).trans z0
            have z1 := fun w' (hC : Below w4.heap.size w4 w') => (hC.cell (p := ⟨q, 1, none⟩) hql).trans z1
            have z2 := fun w' (hC : Below w4.heap.size w4 w') => (hC.cell (p := ⟨q, 2, none⟩) hql).trans z2
            have z3 := fun w' (hC : Below w4.heap.size w4 w') => (hC.cell (p := ⟨q, 3, none⟩) hql).trans z3
            have z4 := fun w' (hC : Below w4.heap.size w4 w') => (hC.cell (p := ⟨q, 4, none⟩) hql).trans z4
            have z5 := fun w' (hC : Below w4.heap.size w4 w') => (hC.cell (p := ⟨q, 5, none⟩) hql).trans z5
            have z6 := fun w' (hC : Below w4.heap.size w4 w') => (hC.cell (p := ⟨q, 6, none⟩) hql).trans z6
            refine wp_region_tame_all [Fact.is (.pointer (some ⟨p.a, 0, none⟩)), Fact.is (.int .i64 ((b : Int))), Fact.is (.int .u32 (packI t0 t1 0 t3 0 0 0)), Fact.is (.agg #[.int .i64 t0, .int .i64 t1, .int .i64 0, .int .i64 t3, .int .i64 0, .int .i64 0, .int .i64 0]), Fact.is (.int .u32 (packI t0 t1 0 t3 0 0 0)), Fact.is (.bool false), Fact.is (.bool false), Fact.is (.bool false), Fact.is (.bool true), Fact.is (.bool true), Fact.is (.pointer (some ⟨p.a, 0, none⟩)), Fact.is (.int .i64 ((b : Int))), Fact.is (.int .u32 0), Fact.is (.pointer (some ⟨p.a, 0, none⟩)), Fact.is (.int .i64 ((b : Int))), Fact.is (.int .u32 0), Fact.is (.int .u32 0), Fact.is (.bool false), Fact.is (.bool false), Fact.is (.bool false)] (by kernel_rfl) (by kernel_rfl) rfl (by kernel_rfl) (fun ops K2 hops hK => ?_)
            refine walkT_is (wantedN rfl) (fun w' hC hd => tame_move _ (.inl rfl) rfl) (by go_frame; rfl) (by simp only [List.nil_append, List.cons_append]; rfl) ?_
            refine walkT_is (wantedN rfl) (fun w' hC hd => tame_move _ (.inl rfl) rfl) (by go_frame; rfl) (by simp only [List.nil_append, List.cons_append]; rfl) ?_
            refine walkT_is (wantedN rfl) (fun w' hC hd => tame_2 78 (.pointer (some ⟨p.a, 0, none⟩)) 79 (.int .i64 ((b : Int))) rfl rfl (fun ρ hρ hf e0 e1 => upon_call_below (f := 18) (args := #[.pointer (some ⟨p.a, 0, none⟩), .int .i64 ((b : Int)), .int .i64 0]) (by go_simp) (seewordB p (cfR n) s b 0 (b : Int) 0 _ w' (HGb.out.later hC) hbn (by simp [cfR]) rfl rfl HV.out))) (by go_frame; rfl) (by simp only [List.nil_append, List.cons_append]; rfl) ?_
            refine walkT_is (wantedN rfl) (fun w' hC hd => tame_1 14 (.pointer (some ⟨q, 0, none⟩)) rfl (fun ρ hρ hf e0 => upon_is (by have hc0 := z0 w' hC; have hc1 := z1 w' hC; have hc2 := z2 w' hC; have hc3 := z3 w' hC; have hc4 := z4 w' hC; have hc5 := z5 w' hC; have hc6 := z6 w' hC; go_simp))) (by go_frame; rfl) (by simp only [List.nil_append, List.cons_append]; rfl) ?_
            refine walkT_is (wantedN rfl) (fun w' hC hd => tame_1 81 (.agg #[.int .i64 t0, .int .i64 t1, .int .i64 0, .int .i64 t3, .int .i64 0, .int .i64 0, .int .i64 0]) rfl (fun ρ hρ hf e0 => upon_call_below (f := 21) (by go_simp) (refPackT_any _ _ _ _ _ _ _ w' HRt.out))) (by go_frame; rfl) (by simp only [List.nil_append, List.cons_append]; rfl) ?_
            refine walkT_is (wantedN rfl) (fun w' hC hd => tame_2 80 (.int .u32 (packI t0 t1 0 t3 0 0 0)) 82 (.int .u32 (packI t0 t1 0 t3 0 0 0)) rfl rfl (fun ρ hρ hf e0 e1 => upon_is (by go_simp))) (by go_frame; rfl) (by simp only [List.nil_append, List.cons_append]; rfl) ?_
            refine walkT_is (wantedN rfl) (fun w' hC hd => tame_move _ (.inl rfl) rfl) (by go_frame; rfl) (by simp only [List.nil_append, List.cons_append]; rfl) ?_
            refine walkT_is (wantedT hops rfl rfl rfl rfl) (fun w' hC hd => tame_move _ (.inl rfl) rfl) (by go_frame; rfl) (by simp only [List.nil_append, List.cons_append]; rfl) ?_
            refine walkT_is (wantedT hops rfl rfl rfl rfl) (fun w' hC hd => tame_1 85 (.bool false) rfl (fun ρ hρ hf e0 => upon_is (by go_simp))) (by go_frame; rfl) (by simp only [List.nil_append, List.cons_append]; rfl) ?_
            refine walkT_is (wantedT hops rfl rfl rfl rfl) (fun w' hC hd => tame_move _ (.inl rfl) rfl) (by go_frame; rfl) (by simp only [List.nil_append, List.cons_append]; rfl) ?_
            refine walkT_is (wantedT hops rfl rfl rfl rfl) (fun w' hC hd => tame_move _ (.inl rfl) rfl) (by go_frame; rfl) (by simp only [List.nil_append, List.cons_append]; rfl) ?_
            refine walkT_is (wantedT hops rfl rfl rfl rfl) (fun w' hC hd => tame_move _ (.inl rfl) rfl) (by go_frame; rfl) (by simp only [List.nil_append, List.cons_append]; rfl) ?_
            refine walkT_is (wantedT hops rfl rfl rfl rfl) (fun w' hC hd => tame_2 88 (.pointer (some ⟨p.a, 0, none⟩)) 89 (.int .i64 ((b : Int))) rfl rfl (fun ρ hρ hf e0 e1 => upon_call_below (f := 18) (args := #[.pointer (some ⟨p.a, 0, none⟩), .int .i64 ((b : Int)), .int .i64 6]) (by go_simp) (seewordB p (cfR n) s b 6 (b : Int) 6 _ w' (HGb.out.later hC) hbn (by simp [cfR]) rfl rfl HI.out.1))) (by go_frame; rfl) (by simp only [List.nil_append, List.cons_append]; rfl) ?_
            refine walkT_is (wantedT hops rfl rfl rfl rfl) (fun w' hC hd => tame_move _ (.inl rfl) rfl) (by go_frame; rfl) (by simp only [List.nil_append, List.cons_append]; rfl) ?_
            refine walkT_is (wantedT hops rfl rfl rfl rfl) (fun w' hC hd => tame_move _ (.inl rfl) rfl) (by go_frame; rfl) (by simp only [List.nil_append, List.cons_append]; rfl) ?_
            refine walkT_is (wantedT hops rfl rfl rfl rfl) (fun w' hC hd => tame_2 91 (.pointer (some ⟨p.a, 0, none⟩)) 92 (.int .i64 ((b : Int))) rfl rfl (fun ρ hρ hf e0 e1 => upon_call_below (f := 18) (args := #[.pointer (some ⟨p.a, 0, none⟩), .int .i64 ((b : Int)), .int .i64 7]) (by go_simp) (seewordB p (cfR n) s b 7 (b : Int) 7 _ w' (HGb.out.later hC) hbn (by simp [cfR]) rfl rfl HI.out.2))) (by go_frame; rfl) (by simp only [List.nil_append, List.cons_append]; rfl) ?_
            refine walkT_is (wantedT hops rfl rfl rfl rfl) (fun w' hC hd => tame_2 90 (.int .u32 0) 93 (.int .u32 0) rfl rfl (fun ρ hρ hf e0 e1 => upon_is (by have hb0 := (by decide : IntKind.u32.wrap 0 = 0); go_simp))) (by go_frame; rfl) (by simp only [List.nil_append, List.cons_append]; rfl) ?_
            refine walkT_is (wantedT hops rfl rfl rfl rfl) (fun w' hC hd => tame_1 94 (.int .u32 0) rfl (fun ρ hρ hf e0 => upon_is (by go_simp))) (by go_frame; rfl) (by simp only [List.nil_append, List.cons_append]; rfl) ?_
            refine walkT_is (wantedT hops rfl rfl rfl rfl) (fun w' hC hd => tame_pick _ _ _ true rfl rfl rfl) (by go_frame; rfl) (by simp only [List.nil_append, List.cons_append]; rfl) ?_
            refine walkT_is (wantedN rfl) (fun w' hC hd => tame_pick _ _ _ false rfl rfl rfl) (by go_frame; rfl) (by simp only [List.nil_append, List.cons_append]; rfl) ?_
            refine walkT_nil fun w7 hC7 _ => hK _ _ ?_
            have HB7 := Lib.hid (below_step HBb.out hC7)
            clear z0 z1 z2 z3 z4 z5 z6 hC7
            go_wp2_with fail
            go_roundw
            case rel => exact ⟨b + 1, by omega, by go_num, HB7.out⟩
            case measure => simp [intOf]; omega
        · go_wp2_with fail
          go_ret
          exact ⟨rfl, HBb.out⟩

end Go.Proofs.Ytdiegmbaiibndaa.Pk
