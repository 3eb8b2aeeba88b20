/-
  Layer 10: the chapter's example (of a package pool that does what it must); the document's row of all blocks.
-/
import Derived.Test.YtgmbamehmecnlaaPoolDo
namespace Go.Proofs.Ytgmbamehmecnlaa.Pk
open Go.RowKit
set_option linter.unusedVariables false
set_option linter.unusedSimpArgs false

set_option maxHeartbeats 400000 in
theorem refOpen_any (n : Nat) (w : World) (hn : n ≤ 10000) :
    Calls Try.prog 104 #[.int .i64 (n : Int)] w (NewNats (List.range n) w) := by
  obtain ⟨i0, hi, hz0, hz1, hz2⟩ := info_parts infoInt
  go_enter Try.func104, Try.ntmps104
  go_wp2
  go_loopw [3, 4] (fun v i wr => ∃ k : Nat, k ≤ n ∧ i = .int .i64 k ∧ Gath w v k (ints (List.range k)) wr) (fun _ i _ => n - (intOf i).toNat)
  case atStart => exact ⟨0, Nat.zero_le _, rfl, World.ownsRow_nil _ _ _ _, Below.refl _ _⟩
  case round =>
    obtain ⟨k, hk, rfl, hown, hbel⟩ := hrel
    have hsz := hbel.size
    by_cases hlt : k < n
    · have HT : Hid (ints (List.range (k + 1)) = ints (List.range k) ++ [(k : Int)]) := Lib.hid (by rw [List.range_succ]; simp [ints])
      go_wp2_with (at_builtin; refine wpList_append_own _ rfl _ _ 34 rfl w.heap.size 3 i0 (.int .i64 0) 1 8 Try.underlying34 hi hz0 hz1 hz2 rfl (by decide) _ _ _ rfl (hown.alloc _) ⟨wr.heap.size, 0, none⟩ 1 1 [.int .i64 (k : Int)] rfl rfl ?c1 ?c2 ?c3 ?c4 ?c5 ?c6)
      case c1 => exact cell_one_new wr _ _
      case c2 => intro u hu; simp at hu; subst hu; rfl
      case c3 => unfold maxLen; omega
      case c4 => omega
      case c5 => simp; omega
      case c6 =>
        intro v' w1 hown' hgrow _
        have hbel1 : Below w.heap.size w w1 := (hbel.alloc hsz _).grown hgrow (by simp; omega) (owns_block hown)
        have HG : Hid (Gath w v' (k + 1) (ints (List.range (k + 1))) w1) := Lib.hid (by
          refine ⟨?_, hbel1⟩
          rw [HT.out]
          simpa using hown')
        clear hown' hgrow hbel1 hown hbel
        go_wp2
        go_roundw
        case rel => exact ⟨k + 1, by omega, by go_num, HG.out⟩
        case measure => simp [intOf]; omega
    · have e : k = n := by omega
      have HO : Hid (NewNats (List.range n) w (.returned u3) wr) := Lib.hid (by
        have h1 : Gath w u3 k (ints (List.range k)) wr := ⟨hown, hbel⟩
        have := (NewRow.mk (by simp [ints]) h1).nats rfl
        rwa [e] at this)
      clear e hown hbel
      go_wp2
      go_ret
      exact HO.out

set_option maxRecDepth 100000 in
set_option maxHeartbeats 1000000 in
theorem begun10_any (F : PoolFns) (w : World) : Calls Try.prog 36 #[] w fun e w' => e = .returned (.bool true) ∧ Below w.heap.size w w' := by
  go_enter Try.func36, Try.ntmps36
  go_wp2_with fail
  refine (newR 3 (by decide) (by decide) _).mono ?_
  rintro e w1 ⟨p, rfl, hG, hp, hb⟩
  have HG := Lib.hid hG
  have HP : Hid (∀ k, inG p k → w.heap.size ≤ k) := Lib.hid (fun k hk => hp k (Or.inr hk))
  have HB := Lib.hid hb
  have hm := hG.may
  obtain ⟨z1, hO, hP1⟩ := F.open_yes (cfR 3) hm
  obtain ⟨d1, _, H1⟩ := hO
  have D1 := Lib.hid (fun m w hG => H1 p m w hG)
  have P1 : PoolAt (cfR 3) z1 [0, 1, 2] := hP1.1
  have HP1 := Lib.hid P1
  clear hG hp hb H1 hP1 P1
  have HM := Lib.hid hm
  clear hm
  have HT0 : Hid (Touch (inG p) w1 w1) := Lib.hid (Touch.refl _ _)
  go_wp2_with fail
  refine (D1.out 0 _ HG.out).mono ?_
  rintro e wm1 ⟨rfl, hG, hT⟩
  have HG1 := Lib.hid hG
  have HT1 : Hid (Touch (inG p) _ wm1) := Lib.hid (HT0.out.trans hT)
  clear hG hT
  have w1z := HG1.out.wz
  obtain ⟨d2, _, H2⟩ := F.open_no (cfR 3) z1 0 [1, 2] w1z HP1.out.ch
  obtain ⟨d3, _, H3⟩ := F.take_yes (cfR 3) z1 0 [1, 2] w1z HP1.out.ch
  have HP3 := Lib.hid (HP1.out.take HM.out w1z.len)
  have D2 := Lib.hid (fun m w hG => H2 p m w hG)
  have D3 := Lib.hid (fun m w hG => H3 p m w hG)
  generalize hz3 : poolTakeZ (cfR 3) 0 z1 = z3 at *
  have Z3 := Lib.hid hz3
  clear w1z H2 H3 hz3
  go_wp2_with fail
  refine (D2.out _ _ HG1.out).mono ?_
  rintro e wm2 ⟨rfl, hG, hT⟩
  have HG2 := Lib.hid hG
  have HT2 : Hid (Touch (inG p) _ wm2) := Lib.hid (HT1.out.trans hT)
  clear hG hT
  go_wp2_with fail
  refine (D3.out _ _ HG2.out).mono ?_
  rintro e wm3 ⟨rfl, hG, hT⟩
  have HG3 := Lib.hid hG
  have HT3 : Hid (Touch (inG p) _ wm3) := Lib.hid (HT2.out.trans hT)
  clear hG hT
  have w3z := HG3.out.wz
  obtain ⟨d4, _, H4⟩ := F.take_yes (cfR 3) z3 1 [2] w3z HP3.out.1.ch
  have HP4 := Lib.hid (HP3.out.1.take HM.out w3z.len)
  have D4 := Lib.hid (fun m w hG => H4 p m w hG)
  generalize hz4 : poolTakeZ (cfR 3) 1 z3 = z4 at *
  clear w3z H4 hz4
  go_wp2_with fail
  refine (D4.out _ _ HG3.out).mono ?_
  rintro e wm4 ⟨rfl, hG, hT⟩
  have HG4 := Lib.hid hG
  have HT4 : Hid (Touch (inG p) _ wm4) := Lib.hid (HT3.out.trans hT)
  clear hG hT
  go_wp2_with fail
  refine (setwordW p (cfR 3) _ 0 0 _ _ 3 _ HG4.out (by decide) (by decide) rfl rfl (by decide) (by decide)).mono ?_
  rintro e wm5 ⟨rfl, hG, hT⟩
  have HG5 := Lib.hid hG
  have HT5 : Hid (Touch (inG p) _ wm5) := Lib.hid (HT4.out.trans hT)
  clear hG hT
  have w5z := HG5.out.wz
  have hP5 : PoolAt (cfR 3) (z4.set (adr (cfR 3) 0 0) 3) [2] := HP4.out.1.only HM.out (by decide) (BlkOnly.set (by decide) 3)
  have ht5 : nth (z4.set (adr (cfR 3) 0 0) 3) (adr (cfR 3) 0 0) = 3 := nth_set_eq (by have := w5z.len; simp [St.set] at this; rw [this]; decide) 3
  obtain ⟨d6, _, H6⟩ := F.give_yes (cfR 3) (z4.set (adr (cfR 3) 0 0) 3) 0 [2] w5z hP5.ch (by decide) (by decide) (by rw [ht5]; decide)
  have HP6 := Lib.hid (hP5.give HM.out w5z.len (b := 0) (by decide) (by decide))
  have D6 := Lib.hid (fun m w hG => H6 p m w hG)
  generalize hz6 : poolGiveZ (cfR 3) 0 (z4.set (adr (cfR 3) 0 0) 3) = z6 at *
  clear w5z H6 hz6 hP5 ht5
  go_wp2_with fail
  refine (D6.out _ _ HG5.out).mono ?_
  rintro e wm6 ⟨rfl, hG, hT⟩
  have HG6 := Lib.hid hG
  have HT6 : Hid (Touch (inG p) _ wm6) := Lib.hid (HT5.out.trans hT)
  clear hG hT
  have w6z := HG6.out.wz
  obtain ⟨d7, _, H7⟩ := F.give_no (cfR 3) z6 0 w6z (Or.inr ⟨0, rfl, by decide, by rw [HP6.out.2]; rfl⟩)
  obtain ⟨d8, _, H8⟩ := F.len (cfR 3) z6 [0, 2] w6z HP6.out.1.ch
  have HL := Lib.hid (fun m w hG => F.list (cfR 3) z6 [0, 2] w6z HP6.out.1.ch p m w hG)
  have D7 := Lib.hid (fun m w hG => H7 p m w hG)
  have D8 := Lib.hid (fun m w hG => H8 p m w hG)
  clear w6z H7 H8
  go_wp2_with fail
  refine (D7.out _ _ HG6.out).mono ?_
  rintro e wm7 ⟨rfl, hG, hT⟩
  have HG7 := Lib.hid hG
  have HT7 : Hid (Touch (inG p) _ wm7) := Lib.hid (HT6.out.trans hT)
  clear hG hT
  go_wp2_with fail
  refine (HL.out _ _ HG7.out).mono ?_
  rintro e wm8 ⟨a5, cap5, rfl, hr5, hf5, hb⟩
  have HG8 := Lib.hid (HG7.out.later hb)
  have HT8 : Hid (Touch (inG p) _ wm8) := Lib.hid (HT7.out.trans (Touch.of_below hb))
  clear hb
  have HR5 := Lib.hid hr5
  clear hr5 hf5
  have HBe := Lib.hid (HB.out.trans (HT8.out.below (B := w.heap.size) HP.out HB.out.size))
  go_wp2_with fail
  refine (rcInts_same a5 _ cap5 2 [0, 2] _ (HR5.out.alloc _) (Row.lit wm8 .i64 [0, 2] 3) (by decide)).mono ?_
  rintro e w7 ⟨rfl, hd⟩
  have HG7 := Lib.hid ((HG8.out.alloc _).drw hd)
  have HB7 := Lib.hid (below_step (HBe.out.alloc HBe.out.size _) hd.new)
  clear hd
  go_wp2_with fail
  refine (D8.out _ _ HG7.out).mono ?_
  rintro e w8 ⟨rfl, hG, hT⟩
  have HB8 := Lib.hid (HB7.out.trans (hT.below (B := w.heap.size) HP.out HB7.out.size))
  clear hG hT
  go_wp2_with fail
  go_ret
  exact ⟨rfl, HB8.out⟩

end Go.Proofs.Ytgmbamehmecnlaa.Pk
