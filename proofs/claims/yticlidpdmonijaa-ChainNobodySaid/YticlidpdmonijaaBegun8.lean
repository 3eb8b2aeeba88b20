/-
  Layer 8: the chapter's example holds (of a package chain that does what it must).
-/
import Derived.Test.YticlidpdmonijaaChain
namespace Go.Proofs.Yticlidpdmonijaa.Pk
open Go.RowKit
set_option linter.unusedVariables false
set_option linter.unusedSimpArgs false

def cf9 : Cf := ⟨9, 16, 1, 1⟩
theorem cf9_may : cf9.May := by constructor <;> simp [cf9]
theorem new9 (w : World) : Calls Try.prog 6 #[.agg #[.int .i64 9, .int .i64 16, .int .i64 1, .int .i64 1]] w (NewG 55 84 66 w cf9) := gnew_yes cf9 w cf9_may

set_option maxRecDepth 100000 in
set_option maxHeartbeats 1000000 in
theorem begun8_any (F : ChainFns) (w : World) : Calls Try.prog 9 #[] w fun e w' => e = .returned (.bool true) ∧ Below w.heap.size w w' := by
  go_enter Try.func9, Try.ntmps9
  go_wp2_with fail
  refine (new9 _).mono ?_
  rintro e w1 ⟨p, rfl, hG, hp, hb⟩
  have HG1 := Lib.hid hG
  have HB1 := Lib.hid hb
  have HP : Hid (∀ k, inG p k → w.heap.size ≤ k) := Lib.hid (fun k hk => hp k (Or.inr hk))
  have hm : cf9.May := cf9_may
  have A0 := ChainAt.zero cf9 cf9.size 1
  have A1 := A0.add (b := 4) hm (by rw [List.length_replicate]) (by decide) (by decide) (by simp)
  have z1 : (addZ cf9 1 4 (List.replicate cf9.size 0)).length = cf9.size := by rw [addZ_length, List.length_replicate]
  have A2 := A1.add (b := 2) hm z1 (by decide) (by decide) (by simp)
  have z2 : (addZ cf9 1 2 (addZ cf9 1 4 (List.replicate cf9.size 0))).length = cf9.size := by rw [addZ_length, z1]
  have A3 := A2.push (b := 7) hm z2 (by decide) (by decide) (by simp)
  have HA0 := Lib.hid A0
  have HA1 := Lib.hid A1
  have HA2 := Lib.hid A2
  have HA3 := Lib.hid A3
  clear hG hb hp A0 A1 A2 A3 z1 z2 hm
  generalize hZ0 : List.replicate cf9.size (0 : Int) = Z0 at *
  generalize hZ1 : addZ cf9 1 4 Z0 = Z1 at *
  generalize hZ2 : addZ cf9 1 2 Z1 = Z2 at *
  generalize hZ3 : pushZ cf9 1 7 Z2 = Z3 at *
  have K1 := Lib.hid hZ1
  have K2 := Lib.hid hZ2
  have K3 := Lib.hid hZ3
  clear hZ0 hZ1 hZ2 hZ3
  go_wp2_with fail
  refine (F.add_yes p cf9 ⟨Z0, 0⟩ 1 4 [] _ HG1.out HA0.out (by decide) (by decide) (by simp)).mono ?_
  rw [show addZ cf9 1 4 (⟨Z0, 0⟩ : St).zs = Z1 from K1.out]
  rintro e w2 ⟨m2, rfl, hG2, _, _, ht2⟩
  have HG2 := Lib.hid hG2
  have HB2 := Lib.hid (HB1.out.trans (ht2.below (B := w.heap.size) HP.out HB1.out.size))
  clear hG2 ht2
  go_wp2_with fail
  refine (F.add_yes p cf9 ⟨Z1, m2⟩ 1 2 [4] _ HG2.out HA1.out (by decide) (by decide) (by simp)).mono ?_
  rw [show addZ cf9 1 2 (⟨Z1, m2⟩ : St).zs = Z2 from K2.out]
  rintro e w3 ⟨m3, rfl, hG3, _, _, ht3⟩
  have HG3 := Lib.hid hG3
  have HB3 := Lib.hid (HB2.out.trans (ht3.below (B := w.heap.size) HP.out HB2.out.size))
  clear hG3 ht3
  go_wp2_with fail
  refine (F.push_yes p cf9 ⟨Z2, m3⟩ 1 7 [4, 2] _ HG3.out HA2.out (by decide) (by decide) (by simp)).mono ?_
  rw [show pushZ cf9 1 7 (⟨Z2, m3⟩ : St).zs = Z3 from K3.out]
  rintro e w4 ⟨m4, rfl, hG4, _, _, ht4⟩
  have HG4 := Lib.hid hG4
  have HB4 := Lib.hid (HB3.out.trans (ht4.below (B := w.heap.size) HP.out HB3.out.size))
  clear hG4 ht4
  go_wp2_with fail
  refine (F.list_yes p cf9 ⟨Z3, m4⟩ 1 [7, 4, 2] _ HG4.out HA3.out (by decide)).mono ?_
  rintro e w5 ⟨a5, cap5, rfl, hr5, _, hb5⟩
  have HR5 := Lib.hid hr5
  have HG5 := Lib.hid (HG4.out.later hb5)
  have HB5 := Lib.hid (below_step HB4.out hb5)
  clear hr5 hb5
  go_wp2_with fail
  refine (rcInts_same a5 _ cap5 3 [7, 4, 2] _ (HR5.out.alloc _) (Row.lit w5 .i64 [7, 4, 2] 3) (by decide)).mono ?_
  rintro e w6 ⟨rfl, hd⟩
  have HG6 := Lib.hid ((HG5.out.alloc _).drw hd)
  have HB6 := Lib.hid (below_step (HB5.out.alloc HB5.out.size _) hd.new)
  clear hd
  go_wp2_with fail
  refine (seeR p cf9 _ 3 3 8 _ HG6.out (by decide) rfl HA3.out.r0).mono ?_
  rintro e w7 ⟨rfl, hd⟩
  have HG7 := Lib.hid (HG6.out.drw hd)
  have HB7 := Lib.hid (below_step HB6.out hd.new)
  clear hd
  go_wp2_with fail
  refine (seeR p cf9 _ 4 4 3 _ HG7.out (by decide) rfl HA3.out.r1).mono ?_
  rintro e w8 ⟨rfl, hd⟩
  have HG8 := Lib.hid (HG7.out.drw hd)
  have HB8 := Lib.hid (below_step HB7.out hd.new)
  clear hd
  go_wp2_with fail
  refine (seeR p cf9 _ 5 5 3 _ HG8.out (by decide) rfl HA3.out.r2).mono ?_
  rintro e w9 ⟨rfl, hd⟩
  have HB9 := Lib.hid (below_step HB8.out hd.new)
  clear hd
  go_wp2_with fail
  go_ret
  exact ⟨rfl, HB9.out⟩

end Go.Proofs.Yticlidpdmonijaa.Pk
