/-
  Layer 12: the law of counts apart, of packages pool, obj and count that do what they must.
-/
import Derived.Test.YtgmbamehmecnlaaCountLaw
import Derived.Lib.MinMax
namespace Go.Proofs.Ytgmbamehmecnlaa.Pk
open Go.RowKit
set_option linter.unusedVariables false
set_option linter.unusedSimpArgs false

/-- The state between the law's calls. -/
def Alo (w : World) (p : Pl) (zs : List Int) (pool : List Nat) (os : List Ob) (o : Ob) (k : Int) (q lo hi : Nat) (a1 : Option Addr) (c1 : Nat) (a2 : Option Addr) (c2 : Nat) (wr : World) : Prop :=
  ∃ zs', HSt w p (cfR 30) zs' pool os wr ∧ Cnt (cfR 30) zs zs' os o k ∧ Seen wr q lo hi (ptrL (cfR 30) zs o) (dataL (cfR 30) zs o) o.np o.nd a1 c1 a2 c2
set_option maxRecDepth 100000 in
set_option maxHeartbeats 8000000 in
theorem countAlone_any (F : PoolFns) (O : ObjFns) (C : CountFns) (x1 y1 x2 y2 : Int) (u d : Nat) (w : World) (hu : u ≤ 255) (hd : d ≤ 255) :
    Calls Try.prog 3 #[.agg #[.int .i64 x1, .int .i64 y1], .agg #[.int .i64 x2, .int .i64 y2], .int .u8 (u : Int), .int .u8 (d : Int)] w fun e w' => e = .returned (.bool true) ∧ Below w.heap.size w w' := by
  have HM : Hid (cfR 30).May := Lib.hid (cfR_may (by decide) (by decide))
  go_enter Try.func3, Try.ntmps3
  have hBa := (Blk.new w #[.int .i64 x1, .int .i64 y1] 23).alloc (.cells #[.int .i64 x2, .int .i64 y2] 23)
  have hBb := Blk.new (w.alloc (.cells #[.int .i64 x1, .int .i64 y1] 23)) #[.int .i64 x2, .int .i64 y2] 23
  have hB0 := (below_new w (.cells #[.int .i64 x1, .int .i64 y1] 23)).alloc (by simp) (.cells #[.int .i64 x2, .int .i64 y2] 23)
  simp only [World.size_alloc] at hBb
  go_wp2_with fail
  generalize hw0 : (w.alloc _).alloc _ = w0 at *
  have HB0 := Lib.hid hB0
  have HBa := Lib.hid hBa
  have HBb := Lib.hid hBb
  clear hw0 hB0 hBa hBb
  refine (openedW16 F 30 _ (by decide) (by decide)).mono ?_
  rintro e w1 ⟨p, z0, q, _, rfl, h0, _, _, _⟩
  have hp : ∀ k, inG p k → w0.heap.size ≤ k := by obtain ⟨_, _, _, h, _⟩ := h0; exact h
  have hb := h0.below
  have H0 : Hid (HSt w0 p (cfR 30) z0 (List.range 30) [] w1) := Lib.hid h0
  have HP := Lib.hid hp
  have HBa1 := Lib.hid (HBa.out.later hb)
  have HBb1 := Lib.hid (HBb.out.later hb)
  clear h0 hp hb
  have ca0 := HBa1.out.cell 0 rfl
  have ca1 := HBa1.out.cell 1 rfl
  go_wp2_with fail
  refine (make_any O H0.out x1 y1).mono ?_
  rintro e w2 ⟨hM, hT⟩
  have HBb2 := Lib.hid (HBb1.out.touch hT (fun hx => by have := HP.out _ hx; have := HBb.out.lt; omega))
  have cb0 := HBb2.out.cell 0 rfl
  have cb1 := HBb2.out.cell 1 rfl
  clear hT ca0 ca1
  rcases hM with ⟨E1, rfl, hE1, h1⟩ | ⟨h1', ls1, pool1, zs1, np1, nd1, rfl, rfl, hpool1, rfl, h1, hMd1, hlen1⟩
  · have HS1 := Lib.hid h1
    have hEb : (E1 != 0) = true := by rw [bne_iff_ne]; exact hE1
    clear h1 hE1
    go_wp2_with fail
    refine (make_any O HS1.out x2 y2).mono ?_
    rintro e w3 ⟨hM, _⟩
    rcases hM with ⟨E2, rfl, hE2, h2⟩ | ⟨h2', ls2, pool2, zs2, np2, nd2, rfl, rfl, hpool2, rfl, h2, hMd2, hlen2⟩
    · have HS2 := Lib.hid h2
      clear h2 hE2
      go_wp2_with fail
      refine (begun12_any F O C _).mono ?_
      rintro e w4 ⟨rfl, hb⟩
      have HB4 := Lib.hid (below_step HB0.out (below_step HS2.out.below hb))
      clear hb
      go_wp2_with fail
      go_ret
      exact ⟨rfl, HB4.out⟩
    · have HS2 := Lib.hid h2
      clear h2 hMd2 hlen2 hpool2
      go_wp2_with fail
      refine (begun12_any F O C _).mono ?_
      rintro e w4 ⟨rfl, hb⟩
      have HB4 := Lib.hid (below_step HB0.out (below_step HS2.out.below hb))
      clear hb
      go_wp2_with fail
      go_ret
      exact ⟨rfl, HB4.out⟩
  · have HS1 := Lib.hid h1
    have HMd1 := Lib.hid hMd1
    clear h1 hMd1 hlen1 hpool1
    go_wp2_with fail
    refine (make_any O HS1.out x2 y2).mono ?_
    rintro e w3 ⟨hM, _⟩
    rcases hM with ⟨E2, rfl, hE2, h2⟩ | ⟨h2', ls2, pool2, zs2, np2, nd2, rfl, rfl, hpool2, rfl, h2, hMd2, hlen2⟩
    · have HS2 := Lib.hid h2
      have hEb : (E2 != 0) = true := by rw [bne_iff_ne]; exact hE2
      clear h2 hE2
      go_wp2_with fail
      refine (begun12_any F O C _).mono ?_
      rintro e w4 ⟨rfl, hb⟩
      have HB4 := Lib.hid (below_step HB0.out (below_step HS2.out.below hb))
      clear hb
      go_wp2_with fail
      go_ret
      exact ⟨rfl, HB4.out⟩
    · have HSm := Lib.hid h2
      have hdis : h1' ≠ h2' := fun e => by
        have := h2.heap.nodupB
        rw [List.flatMap_append, List.nodup_append] at this
        exact this.2.2 h1' (by simp [newOb, Ob.blocks]) h1' (by simp [newOb, Ob.blocks, e]) rfl
      have HZ : Hid (np1 ≤ 10000 ∧ nd1 ≤ 10000 ∧ np2 ≤ 10000 ∧ nd2 ≤ 10000) := Lib.hid (by
        have a1 := (h2.heap.obs (newOb h1' np1 nd1 ls1) (by simp)).size
        have a2 := (h2.heap.obs (newOb h2' np2 nd2 ls2) (by simp)).size
        have e1 : fieldsI ((cfR 30).W : Int) = 120 := by decide
        rw [e1] at a1 a2
        simp [Ob.f, newOb] at a1 a2
        omega)
      have HK1 : Hid (nth zs2 (adr (cfR 30) h1' 3) = 0) := Lib.hid (by
        rw [hMd2.out _ (by unfold adr; have : (cfR 30).R = 1 := rfl; omega) (fun b hb => inBlk_ne (fun e => ?_) (by decide))]
        · exact HMd1.out.own 3 (by decide) (by decide)
        · have hn := h2.heap.own (o := newOb h1' np1 nd1 ls1) (o' := newOb h2' np2 nd2 ls2) (b := h1') (by simp) (by simp) (by simp [newOb, Ob.blocks]) (by rw [e]; exact hb)
          exact hdis (congrArg Ob.h hn))
      have HK2 : Hid (nth zs2 (adr (cfR 30) h2' 3) = 0) := Lib.hid (hMd2.own 3 (by decide) (by decide))
      obtain ⟨o1, ho1e⟩ : ∃ o1, o1 = newOb h1' np1 nd1 ls1 := ⟨_, rfl⟩
      obtain ⟨o2, ho2e⟩ : ∃ o2, o2 = newOb h2' np2 nd2 ls2 := ⟨_, rfl⟩
      have q1 : h1' = o1.h ∧ np1 = o1.np ∧ nd1 = o1.nd := by rw [ho1e]; exact ⟨rfl, rfl, rfl⟩
      have q2 : h2' = o2.h ∧ np2 = o2.np ∧ nd2 = o2.nd := by rw [ho2e]; exact ⟨rfl, rfl, rfl⟩
      rw [← ho1e, ← ho2e] at HSm
      obtain ⟨os, hos⟩ : ∃ os, os = [] ++ [o1] ++ [o2] := ⟨_, rfl⟩
      rw [← hos] at HSm
      have hos1 : o1 ∈ os := by rw [hos]; simp
      have hos2 : o2 ∈ os := by rw [hos]; simp
      obtain ⟨rfl, rfl, rfl⟩ := q1
      obtain ⟨rfl, rfl, rfl⟩ := q2
      have hne : o1.h ≠ o2.h := hdis
      have hne' : o2.h ≠ o1.h := fun e => hdis e.symm
      have ho1 := HSm.out.heap.obAt hos1
      have ho2 := HSm.out.heap.obAt hos2
      obtain ⟨n1, m1', n2, m2'⟩ := HZ.out
      have m1 : o1.nd ≤ maxLen := by unfold maxLen; omega
      have m2 : o2.nd ≤ maxLen := by unfold maxLen; omega
      clear h2 hMd2 hlen2 hpool2 ho1e ho2e hos hdis
      go_wp2_with fail
      refine (HSm.out.look (O.see_yes _ _ _ _ o1 HSm.out.wz HSm.out.heap hos1)).mono ?_
      rintro e v1 ⟨a11, c11, a12, c12, rfl, r1, r2, f1, f2, f12, hb, g1, g2⟩
      have HV1 := Lib.hid (Seen.mk' (c1 := c11) (c2 := c12) r1 r2 f1 f2 f12 hb g1 g2)
      have HS1 := Lib.hid ((HSm.out.later hb).later (below_new _ (.cells #[.slice a11 (o1).np c11, .slice a12 (o1).nd c12] 37)))
      have HI1 := Lib.hid hb.size
      clear hb
      clear r1 r2 f1 f2 f12 g1 g2
      have HNG : Hid (∀ i, w3.heap.size ≤ i → ¬ ofG p i) := Lib.hid (fun i hi => HSm.out.notG hi)
      have HO1 := Lib.hid hos1
      have HO2 := Lib.hid hos2
      have HNE := Lib.hid hne'
      have HA0 : Hid (Alo w0 p zs2 pool2 os o1 0 v1.heap.size w3.heap.size (v1.heap.size + 1) a11 c11 a12 c12 (v1.alloc (.cells #[.slice a11 (o1).np c11, .slice a12 (o1).nd c12] 37))) := Lib.hid ⟨zs2, HS1.out, HK1.out ▸ Cnt.refl _ _ _ _, HV1.out⟩
      clear hos1 hos2 hne hne' HS1 HV1 HI1
      go_wp2_with fail
      generalize hq : v1.heap.size = q at *
      generalize hv1 : v1.alloc _ = v2 at *
      clear hq hv1
      go_loopw [63] (fun i wr => ∃ j : Nat, j ≤ u ∧ i = .int .u8 (j : Int) ∧ Alo w0 p zs2 pool2 os o1 (j : Int) q w3.heap.size (q + 1) a11 c11 a12 c12 wr) (fun i _ => u - (intOf i).toNat)
      case atStart => exact ⟨0, Nat.zero_le _, rfl, HA0.out⟩
      case round =>
        obtain ⟨j, hj, rfl, hA⟩ := hrel
        by_cases hlt : j < u
        · obtain ⟨za, hSt, hC, hSe⟩ := hA
          have HSt := Lib.hid hSt
          have HC := Lib.hid hC
          have HSe := Lib.hid hSe
          clear hSt hC hSe
          go_wp2_with fail
          refine (up_step C HSt.out HM.out HO1.out HC.out.1 (by omega) ((j + 1 : Nat) : Int) _ (by omega) rfl).mono ?_
          rintro e wb ⟨zb, rfl, hSt, hC, hT⟩
          have HA : Hid (Alo w0 p zs2 pool2 os o1 ((j + 1 : Nat) : Int) q w3.heap.size (q + 1) a11 c11 a12 c12 wb) := Lib.hid ⟨zb, hSt, HC.out.trans hC, HSe.out.touch hT (fun i hi hi' hx => HNG.out i hi (Or.inr hx))⟩
          clear hSt hC hT
          go_wp2_with fail
          go_roundw
          case rel => exact ⟨j + 1, by omega, by go_num, HA.out⟩
          case measure => simp [intOf]; omega
        · have HAu : Hid (Alo w0 p zs2 pool2 os o1 (u : Int) q w3.heap.size (q + 1) a11 c11 a12 c12 wr) := Lib.hid ((show j = u by omega) ▸ hA)
          clear hA
          go_wp2_with fail
          go_loopw [18, 70] (fun v i wr => ∃ j m : Nat, j ≤ d ∧ m = min u j ∧ v = .int .i64 (m : Int) ∧ i = .int .u8 (j : Int) ∧ Alo w0 p zs2 pool2 os o1 ((u : Int) - m) q w3.heap.size (q + 1) a11 c11 a12 c12 wr) (fun _ i _ => d - (intOf i).toNat)
          case atStart => exact ⟨0, 0, Nat.zero_le _, by simp, rfl, rfl, by simpa using HAu.out⟩
          case round =>
            obtain ⟨k, m, hk, hm, rfl, rfl, hA⟩ := hrel
            by_cases hlt2 : k < d
            · obtain ⟨za, hSt, hC, hSe⟩ := hA
              have HSt := Lib.hid hSt
              have HC := Lib.hid hC
              have HSe := Lib.hid hSe
              clear hSt hC hSe
              by_cases hmu : k < u
              · have hmk : m = k := by omega
                subst hmk
                clear hm
                go_wp2_with fail
                refine (down_step C HSt.out HM.out HO1.out HC.out.1 (by omega) ((u : Int) - (m + 1 : Nat)) _ (by omega) rfl).mono ?_
                rintro e wb ⟨zb, rfl, hSt, hC, hT⟩
                have HA : Hid (Alo w0 p zs2 pool2 os o1 ((u : Int) - (m + 1 : Nat)) q w3.heap.size (q + 1) a11 c11 a12 c12 wb) := Lib.hid ⟨zb, hSt, HC.out.trans hC, HSe.out.touch hT (fun i hi hi' hx => HNG.out i hi (Or.inr hx))⟩
                clear hSt hC hT
                go_wp2_with fail
                go_roundw
                case rel => exact ⟨m + 1, m + 1, by omega, by omega, by go_num, by go_num, HA.out⟩
                case measure => simp [intOf]; omega
              · have hmk : m = u := by omega
                subst hmk
                clear hm
                have HC0 : Hid (nth za (adr (cfR 30) o1.h 3) = 0) := Lib.hid (by rw [HC.out.1]; omega)
                go_wp2_with fail
                refine (down0_step C HSt.out HO1.out HC0.out _ rfl).mono ?_
                rintro e wb ⟨rfl, hSt, hT⟩
                have HA : Hid (Alo w0 p zs2 pool2 os o1 ((m : Int) - m) q w3.heap.size (q + 1) a11 c11 a12 c12 wb) := Lib.hid ⟨za, hSt, HC.out, HSe.out.touch hT (fun i hi hi' hx => HNG.out i hi (Or.inr hx))⟩
                clear hSt hT
                go_wp2_with fail
                go_roundw
                case rel => exact ⟨k + 1, m, by omega, by omega, rfl, by go_num, HA.out⟩
                case measure => simp [intOf]; omega
            · have hmd : m = min u d := by omega
              obtain ⟨za, hSt, hC, hSe⟩ := hA
              have HSt := Lib.hid hSt
              have HC := Lib.hid hC
              have HSe := Lib.hid hSe
              have hl := lists_same hC.2.2 HO1.out
              have HL := Lib.hid hl
              have HC2 : Hid (nth za (adr (cfR 30) o2.h 3) = 0) := Lib.hid (by rw [hC.2.1 o2 HO2.out HNE.out]; exact HK2.out)
              clear hSt hC hSe hl
              go_wp2_with fail
              refine (HSt.out.look (O.see_yes _ _ _ _ o1 HSt.out.wz HSt.out.heap HO1.out)).mono ?_
              rintro e v5 ⟨a51, c51, a52, c52, rfl, r1, r2, f1, f2, f12, hb, g1, g2⟩
              have HV5 := Lib.hid (Seen.mk' (c1 := c51) (c2 := c52) r1 r2 f1 f2 f12 hb g1 g2)
              have HS5 := Lib.hid ((HSt.out.later hb).later (below_new _ (.cells #[.slice a51 (o1).np c51, .slice a52 (o1).nd c52] 37)))
              have HV1 := Lib.hid (((HSe.out).later hb).later (below_new _ (.cells #[.slice a51 (o1).np c51, .slice a52 (o1).nd c52] 37)))
              have HI5 := Lib.hid hb.size
              clear hb
              clear r1 r2 f1 f2 f12 g1 g2
              go_wp2_with fail
              refine (begun12_any F O C _).mono ?_
              rintro e v7 ⟨rfl, hb⟩
              have HS7 := Lib.hid (HS5.out.later hb)
              have W1 := Lib.hid (HV1.out.later hb)
              have W5 := Lib.hid (HV5.out.later hb)
              have hE : IntKind.i64.wrap (min (u : Int) (d : Int)) = (m : Int) := by rw [show min (u : Int) (d : Int) = (m : Int) by omega]; exact IntWalk.i64_in _ (by omega)
              have hW : IntKind.i64.wrap ((u : Int) - (m : Int)) = (u : Int) - m := IntWalk.i64_in _ (by omega)
              have HNG5 : Hid (∀ i, wr.heap.size ≤ i → i < v5.heap.size + 1 → ¬ inG p i) := Lib.hid (fun i hi _ hx => HSt.out.notG hi (Or.inr hx))
              clear hb
              go_wp2_with fail
              refine (of_step C HS7.out HO1.out ((u : Int) - m) _ HC.out.1 rfl).mono ?_
              rintro e v8 ⟨rfl, hSt, hT⟩
              have HS8 := Lib.hid hSt
              have W1a := Lib.hid (W1.out.touch hT (fun i hi hi' hx => HNG.out i hi (Or.inr hx)))
              have W5a := Lib.hid (W5.out.touch hT HNG5.out)
              clear hSt hT
              go_wp2_with fail
              refine (of_step C HS8.out HO2.out 0 _ HC2.out rfl).mono ?_
              rintro e v9 ⟨rfl, hSt, hT⟩
              have HS9 := Lib.hid hSt
              have W1b := Lib.hid (W1a.out.touch hT (fun i hi hi' hx => HNG.out i hi (Or.inr hx)))
              have W5b := Lib.hid (W5a.out.touch hT HNG5.out)
              rw [HL.out.1, HL.out.2] at W5b
              have x10 := W1b.out.box.cell 0 rfl
              have x50 := W5b.out.box.cell 0 rfl
              clear hSt hT
              go_wp2_with fail
              refine (ints_n _ _ _ _ _ _ (ptrL_length _ _ _) W1b.out.r1.row W5b.out.r1.row n1).mono ?_
              rintro e v10 ⟨rfl, hd⟩
              have W1c := Lib.hid (W1b.out.drw hd)
              have W5c := Lib.hid (W5b.out.drw hd)
              have HB10 := Lib.hid (below_step HS9.out.below hd.new)
              clear hd x10 x50
              have x11 := W1c.out.box.cell 1 rfl
              have x51 := W5c.out.box.cell 1 rfl
              go_wp2_with fail
              refine (same_yes _ _ _ _ _ _ _ (dataL_length _ _ _) W1c.out.r2.row W5c.out.r2.row m1).mono ?_
              rintro e v11 ⟨rfl, hd⟩
              have HB11 := Lib.hid (below_step HB10.out hd.new)
              clear hd x11 x51
              go_wp2_with fail
              go_ret
              exact ⟨rfl, below_step HB0.out HB11.out⟩

end Go.Proofs.Ytgmbamehmecnlaa.Pk
