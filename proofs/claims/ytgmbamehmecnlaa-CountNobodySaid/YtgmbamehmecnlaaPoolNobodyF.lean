/-
  Layer 10: a nil ground has no pool, an open one is not opened again (from the bundles).
-/
import Derived.Test.YtgmbamehmecnlaaPoolBegun
namespace Go.Proofs.Ytgmbamehmecnlaa.Pk
open Go.RowKit
set_option linter.unusedVariables false
set_option linter.unusedSimpArgs false

/-- What package pool returns of a nil ground (a bundle). -/
structure PoolNil : Prop where
  take : ∀ (w : World), Calls Try.prog 33 #[.pointer none] w fun e w' => e = .returned (.tuple #[.int .i64 0, .bool false]) ∧ Below w.heap.size w w'
  open_ : ∀ (w : World), Calls Try.prog 21 #[.pointer none] w fun e w' => e = .returned (.bool false) ∧ Below w.heap.size w w'
  give : ∀ (b : Int) (w : World), Calls Try.prog 34 #[.pointer none, .int .i64 b] w fun e w' => e = .returned (.bool false) ∧ Below w.heap.size w w'
  len : ∀ (w : World), Calls Try.prog 25 #[.pointer none] w fun e w' => e = .returned (.int .i64 0) ∧ Below w.heap.size w w'
  list : ∀ (w : World), Calls Try.prog 35 #[.pointer none] w fun e w' => ∃ a cap, e = .returned (.slice a 0 cap) ∧ Below w.heap.size w w'
theorem opened_nogive {c : Cf} {zs : List Int} (h : Opened c zs) (b : Int) : NoGive c zs b := by
  by_cases hb : 0 ≤ b ∧ b < (c.N : Int)
  · obtain ⟨k, rfl⟩ := Int.eq_ofNat_of_zero_le hb.1
    have hk : k < c.N := by omega
    exact .inr ⟨k, rfl, hk, by rw [h.1.fr k (List.mem_range.2 hk)]; decide⟩
  · exact .inl hb
set_option maxRecDepth 100000 in
set_option maxHeartbeats 4000000 in
theorem poolNobody_any (F : PoolFns) (N : PoolNil) (b : Int) (u : Nat) (hu : u ≤ 255) (w : World) :
    Calls Try.prog 7 #[.int .i64 b, .int .u8 (u : Int)] w fun e w' => e = .returned (.bool true) ∧ Below w.heap.size w w' := by
  obtain ⟨m, e1, hm⟩ : ∃ m : Nat, Int.tmod (u : Int) 50 = (m : Int) ∧ m < 50 := ⟨u % 50, by rw [Int.tmod_eq_emod_of_nonneg (by omega)]; omega, by omega⟩
  have HM : Hid (cfR (m + 1)).May := Lib.hid (cfR_may (by omega) (by omega))
  have HN1 : Hid (((m + 1 : Nat) : Int) = (m : Int) + 1) := Lib.hid (by omega)
  have HNo : Hid (∀ zs, Opened (cfR (m + 1)) zs → NoGive (cfR (m + 1)) zs b) := Lib.hid (fun zs h => opened_nogive h b)
  go_enter Try.func7, Try.ntmps7
  have HB0 : Hid (Below w.heap.size w w) := Lib.hid (Below.refl _ _)
  go_wp2_with fail
  refine (N.take _).mono ?_
  rintro e w1 ⟨rfl, hb⟩
  have HB1 := Lib.hid (below_step HB0.out hb)
  clear hb
  go_wp2_with fail
  refine (N.open_ _).mono ?_
  rintro e w2 ⟨rfl, hb⟩
  have HB2 := Lib.hid (below_step HB1.out hb)
  clear hb
  go_wp2_with fail
  refine (N.give b _).mono ?_
  rintro e w3 ⟨rfl, hb⟩
  have HB3 := Lib.hid (below_step HB2.out hb)
  clear hb
  go_wp2_with fail
  refine (N.len _).mono ?_
  rintro e w4 ⟨rfl, hb⟩
  have HB4 := Lib.hid (below_step HB3.out hb)
  clear hb
  go_wp2_with fail
  refine (N.list _).mono ?_
  rintro e w5 ⟨a, cap, rfl, hb⟩
  have HB5 := Lib.hid (below_step HB4.out hb)
  clear hb
  have hg := newR (m + 1) (by omega) (by omega) w5
  rw [HN1.out] at hg
  have HGN := Lib.hid hg
  clear hg
  go_wp2_with fail
  refine HGN.out.mono ?_
  rintro e w6 ⟨p, rfl, hG, hp, hb⟩
  have HG := Lib.hid hG
  have HP : Hid (∀ k, inG p k → w.heap.size ≤ k) := Lib.hid (fun k hk => Nat.le_trans HB5.out.size (hp k (Or.inr hk)))
  have HB6 := Lib.hid (below_step HB5.out hb)
  obtain ⟨zo, hzo, hOp⟩ := F.open_yes (cfR (m + 1)) HM.out
  obtain ⟨dO, _, HO⟩ := hzo
  have DO := Lib.hid (fun p m w hG => HO p m w hG)
  have HOp := Lib.hid hOp
  clear hG hp hb HO hOp
  go_wp2_with fail
  refine (DO.out p 0 _ HG.out).mono ?_
  rintro e w7 ⟨rfl, hG7, hT7⟩
  have HG7 := Lib.hid hG7
  have HB7 := Lib.hid (HB6.out.trans (hT7.below (B := w.heap.size) HP.out HB6.out.size))
  obtain ⟨b0, l0, hl0⟩ : ∃ b0 l0, List.range (m + 1) = b0 :: l0 := by
    cases e : List.range (m + 1) with
    | nil => exact absurd (congrArg List.length e) (by simp)
    | cons a l => exact ⟨a, l, rfl⟩
  have HCh : Hid (ChainAt (cfR (m + 1)) zo 0 (List.range (m + 1))) := Lib.hid HOp.out.1.ch
  have HL0 := Lib.hid hl0
  clear hG7 hT7 hl0
  have hA8 := F.open_no (cfR (m + 1)) zo b0 l0 HG7.out.wz (HL0.out ▸ HCh.out)
  obtain ⟨d8, _, H8⟩ := hA8
  have D8 := Lib.hid (fun p m w hG => H8 p m w hG)
  clear H8
  go_wp2_with fail
  refine (D8.out p _ _ HG7.out).mono ?_
  rintro e w8 ⟨rfl, hG8, hT8⟩
  have HG8 := Lib.hid hG8
  have HB8 := Lib.hid (HB7.out.trans (hT8.below (B := w.heap.size) HP.out HB7.out.size))
  clear hG8 hT8
  obtain ⟨d9, _, H9⟩ := F.len (cfR (m + 1)) zo (List.range (m + 1)) HG8.out.wz HCh.out
  rw [List.length_range, HN1.out] at H9
  have D9 := Lib.hid (fun p m w hG => H9 p m w hG)
  clear H9
  go_wp2_with fail
  refine (D9.out p _ _ HG8.out).mono ?_
  rintro e w9 ⟨rfl, hG9, hT9⟩
  have HG9 := Lib.hid hG9
  have HB9 := Lib.hid (HB8.out.trans (hT9.below (B := w.heap.size) HP.out HB8.out.size))
  clear hG9 hT9
  obtain ⟨d10, _, H10⟩ := F.give_no (cfR (m + 1)) zo b HG9.out.wz (HNo.out zo HOp.out)
  have D10 := Lib.hid (fun p m w hG => H10 p m w hG)
  clear H10
  go_wp2_with fail
  refine (D10.out p _ _ HG9.out).mono ?_
  rintro e w10 ⟨rfl, hG10, hT10⟩
  have HB10 := Lib.hid (HB9.out.trans (hT10.below (B := w.heap.size) HP.out HB9.out.size))
  clear hG10 hT10
  go_wp2_with fail
  refine (begun10_any F _).mono ?_
  rintro e w11 ⟨rfl, hb⟩
  have HB11 := Lib.hid (below_step HB10.out hb)
  clear hb
  go_wp2_with fail
  go_ret
  exact ⟨rfl, HB11.out⟩

end Go.Proofs.Ytgmbamehmecnlaa.Pk
