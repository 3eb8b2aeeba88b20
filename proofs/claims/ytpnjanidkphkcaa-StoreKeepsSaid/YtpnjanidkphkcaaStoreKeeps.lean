/- The statement StoreKeeps holds for every input: what was put last is got, nothing else is changed by it, and the meter rises by one with each access; and the chapter's example holds. No condition. -/
import Derived.Test.YtpnjanidkphkcaaRows
import Derived.Test.YtpnjanidkphkcaaStoDo
import Derived.WalkKit
import Derived.ProofKit
import Derived.OpenShut
import Derived.ChangeOld
import Derived.Carry
import Derived.Lib.SmallJoins
namespace Go.Proofs.Ytpnjanidkphkcaa.storeKeeps
open Go.ChangeShapes Go.WideShapes Go.ChangeAt Go.RowKit Go.Joins
open Go.Proofs.Ytpnjanidkphkcaa.Pk
set_option linter.unusedVariables false
set_option linter.unusedSimpArgs false

theorem own : ownKnob Try.prog.godebug = none := by kernel_rfl
theorem laidOut : laidOutB Try.prog = true := by kernel_rfl

/-- The word j, 0 if there is no such word. -/
def peekV (zs : List Int) (j : Int) : Int := if 0 ≤ j ∧ j < (zs.length : Int) then nth zs j.toNat else 0
theorem peek_any (s g : Nat) (zs : List Int) (m j : Int) (w : World) (hS : Sto w 54 30 s g zs m) :
    Calls Try.prog 15 #[.pointer (some ⟨s, 0, none⟩), .int .i64 j] w fun e w' => e = .returned (.int .u32 (peekV zs j)) ∧ w = w' := by
  unfold peekV
  by_cases h : 0 ≤ j ∧ j < (zs.length : Int)
  · rw [if_pos h]
    obtain ⟨k, rfl⟩ := Int.eq_ofNat_of_zero_le h.1
    exact peek_yes s g zs m k w hS (by omega)
  · rw [if_neg h]
    exact peek_no s g zs m j w hS (by omega)
theorem peekV_set (zs : List Int) (k : Nat) (v j : Int) (h : ¬ (k : Int) = j) : peekV (zs.set k v) j = peekV zs j := by
  unfold peekV
  rw [List.length_set]
  by_cases h1 : 0 ≤ j ∧ j < (zs.length : Int)
  · rw [if_pos h1, if_pos h1]
    unfold nth
    rw [List.getD_eq_getElem?_getD, List.getD_eq_getElem?_getD, List.getElem?_set_ne (by omega)]
  · rw [if_neg h1, if_neg h1]

set_option maxRecDepth 100000 in
set_option maxHeartbeats 1000000 in
theorem walk_none (a : Option Addr) (cap n : Nat) (i j v : Int) (w : World) (h : 8388608 < (n : Int)) (hm : (n : Int) ≤ 9223372036854775807) :
    Calls Try.prog 5 #[.slice a n cap, .int .i64 i, .int .i64 j, .int .u32 v] w fun e w' => e = .returned (.bool true) ∧ Below w.heap.size w w' := by
  have h1 : (1000 : Int) < (n : Int) := by omega
  go_enter Try.func5, Try.ntmps5
  go_wp2_with fail
  refine (new_no _ _ (.inr h)).mono ?_
  rintro e w1 ⟨rfl, rfl⟩
  go_wp2_with fail
  refine (begun4_any _).mono ?_
  rintro e w1 ⟨rfl, hb⟩
  go_wp2_with fail
  go_ret
  exact ⟨rfl, hb⟩

set_option maxRecDepth 100000 in
set_option maxHeartbeats 1000000 in
theorem walk_many (a : Option Addr) (cap n : Nat) (i j v : Int) (w : World) (h : (1000 : Int) < (n : Int)) (h2 : n ≤ 8388608) :
    Calls Try.prog 5 #[.slice a n cap, .int .i64 i, .int .i64 j, .int .u32 v] w fun e w' => e = .returned (.bool true) ∧ Below w.heap.size w w' := by
  go_enter Try.func5, Try.ntmps5
  go_wp2_with fail
  refine (new_yes n _ h2).mono ?_
  rintro e w1 ⟨s, g, rfl, hS, hs, hg, hb⟩
  have HB := Lib.hid hb
  clear hS hb hs hg
  go_wp2_with fail
  refine (begun4_any _).mono ?_
  rintro e w2 ⟨rfl, hb⟩
  have HB2 := Lib.hid (HB.out.trans (hb.mono HB.out.size))
  clear hb
  go_wp2_with fail
  go_ret
  exact ⟨rfl, HB2.out⟩

set_option maxRecDepth 100000 in
set_option maxHeartbeats 2000000 in
theorem walk_out (a : Option Addr) (cap n : Nat) (zs : List Int) (i j v : Int) (w : World) (hn : zs.length = n) (h : (n : Int) ≤ 1000) (hrow : Row w .u32 a zs) (hi : i < 0 ∨ (n : Int) ≤ i) :
    Calls Try.prog 5 #[.slice a n cap, .int .i64 i, .int .i64 j, .int .u32 v] w fun e w' => e = .returned (.bool true) ∧ Below w.heap.size w w' := by
  have HN := Lib.hid hn
  have HR := Lib.hid hrow
  have HI := Lib.hid (show i < 0 ∨ (zs.length : Int) ≤ i by rw [hn]; exact hi)
  clear hn hrow
  go_enter Try.func5, Try.ntmps5
  go_wp2_with fail
  refine (new_yes n _ (by omega)).mono ?_
  rintro e w1 ⟨s, g, rfl, hS, hs, hg, hb⟩
  have HS := Lib.hid hS
  have HB := Lib.hid hb
  have HX : Hid (∀ k, inSto s g k → w.heap.size ≤ k) := Lib.hid (fun k hk => by rcases hk with rfl | rfl; exact hs; exact hg)
  have HR1 := Lib.hid (HR.out.later hb)
  have HO := Lib.hid (HR.out.out HX.out)
  clear hS hb hs hg
  go_wp2_with fail
  refine (load_yes s g n (List.replicate n 0) zs 0 a cap _ HS.out HN.out (by simp) HR1.out).mono ?_
  rintro e w2 ⟨rfl, hS, hT⟩
  have HS2 := Lib.hid hS
  have HB2 := Lib.hid (HB.out.trans (hT.below (B := w.heap.size) HX.out HB.out.size))
  have HR2 := Lib.hid (HR1.out.touch hT HO.out)
  clear hS hT HS HB HR1
  go_wp2_with fail
  refine (peek_any s g zs 0 j _ HS2.out).mono ?_
  rintro e w3 ⟨rfl, rfl⟩
  go_wp2_with fail
  refine (meter_any s g _ _ _ HS2.out).mono ?_
  rintro e w3 ⟨rfl, rfl⟩
  go_wp2_with fail
  refine (put_no s g zs 0 i v _ HS2.out HI.out).mono ?_
  rintro e w3 ⟨rfl, rfl⟩
  rcases hi with hi | hi
  · go_wp2_with fail
    refine (meter_any s g _ _ _ HS2.out).mono ?_
    rintro e w3 ⟨rfl, rfl⟩
    go_wp2_with fail
    refine (words_any s g zs 0 _ HS2.out (by rw [HN.out]; omega)).mono ?_
    rintro e w3 ⟨u, rfl, hu, hu2, hb⟩
    have HU := Lib.hid (blk_row hu)
    have HB3 := Lib.hid (HB2.out.trans (hb.mono HB2.out.size))
    have HR3 := Lib.hid (HR2.out.later hb)
    clear hu hu2 hb
    go_wp2_with fail
    refine (same_yesN zs _ _ n _ _ _ _ HN.out HU.out HR3.out (by unfold maxLen; omega)).mono ?_
    rintro e w4 ⟨rfl, hd⟩
    have HB4 := Lib.hid (HB3.out.trans (hd.below w.heap.size))
    clear hd
    go_wp2_with fail
    refine (begun4_any _).mono ?_
    rintro e w5 ⟨rfl, hb⟩
    have HB5 := Lib.hid (HB4.out.trans (hb.mono HB4.out.size))
    clear hb
    go_wp2_with fail
    go_ret
    exact ⟨rfl, HB5.out⟩
  · have hi0 : ¬ i < 0 := by omega
    go_wp2_with fail
    refine (meter_any s g _ _ _ HS2.out).mono ?_
    rintro e w3 ⟨rfl, rfl⟩
    go_wp2_with fail
    refine (words_any s g zs 0 _ HS2.out (by rw [HN.out]; omega)).mono ?_
    rintro e w3 ⟨u, rfl, hu, hu2, hb⟩
    have HU := Lib.hid (blk_row hu)
    have HB3 := Lib.hid (HB2.out.trans (hb.mono HB2.out.size))
    have HR3 := Lib.hid (HR2.out.later hb)
    clear hu hu2 hb
    go_wp2_with fail
    refine (same_yesN zs _ _ n _ _ _ _ HN.out HU.out HR3.out (by unfold maxLen; omega)).mono ?_
    rintro e w4 ⟨rfl, hd⟩
    have HB4 := Lib.hid (HB3.out.trans (hd.below w.heap.size))
    clear hd
    go_wp2_with fail
    refine (begun4_any _).mono ?_
    rintro e w5 ⟨rfl, hb⟩
    have HB5 := Lib.hid (HB4.out.trans (hb.mono HB4.out.size))
    clear hb
    go_wp2_with fail
    go_ret
    exact ⟨rfl, HB5.out⟩

set_option maxRecDepth 100000 in
set_option maxHeartbeats 2000000 in
theorem walk_in (a : Option Addr) (cap n : Nat) (zs : List Int) (k : Nat) (j v : Int) (w : World) (hn : zs.length = n) (h : (n : Int) ≤ 1000) (hrow : Row w .u32 a zs) (hk : k < n) :
    Calls Try.prog 5 #[.slice a n cap, .int .i64 (k : Int), .int .i64 j, .int .u32 v] w fun e w' => e = .returned (.bool true) ∧ Below w.heap.size w w' := by
  have HN := Lib.hid hn
  have HR := Lib.hid hrow
  have HK := Lib.hid (show k < zs.length by rw [hn]; exact hk)
  have HG : Hid (nth (zs.set k v) k = v) := Lib.hid (nth_set (by rw [hn]; exact hk) v)
  clear hn hrow
  go_enter Try.func5, Try.ntmps5
  go_wp2_with fail
  refine (new_yes n _ (by omega)).mono ?_
  rintro e w1 ⟨s, g, rfl, hS, hs, hg, hb⟩
  have HS := Lib.hid hS
  have HB := Lib.hid hb
  have HX : Hid (∀ k, inSto s g k → w.heap.size ≤ k) := Lib.hid (fun k hk => by rcases hk with rfl | rfl; exact hs; exact hg)
  have HR1 := Lib.hid (HR.out.later hb)
  clear hS hb hs hg
  go_wp2_with fail
  refine (load_yes s g n (List.replicate n 0) zs 0 a cap _ HS.out HN.out (by simp) HR1.out).mono ?_
  rintro e w2 ⟨rfl, hS, hT⟩
  have HS2 := Lib.hid hS
  have HB2 := Lib.hid (HB.out.trans (hT.below (B := w.heap.size) HX.out HB.out.size))
  clear hS hT HS HB HR1
  go_wp2_with fail
  refine (peek_any s g zs 0 j _ HS2.out).mono ?_
  rintro e w3 ⟨rfl, rfl⟩
  go_wp2_with fail
  refine (meter_any s g _ _ _ HS2.out).mono ?_
  rintro e w3 ⟨rfl, rfl⟩
  go_wp2_with fail
  refine (put_yes s g zs 0 v k _ HS2.out HK.out (by decide) (by decide)).mono ?_
  rintro e w3 ⟨rfl, hS, hT⟩
  have HS3 := Lib.hid hS
  have HB3 := Lib.hid (HB2.out.trans (hT.below (B := w.heap.size) HX.out HB2.out.size))
  clear hS hT HS2 HB2
  go_wp2_with fail
  refine (get_yes s g (zs.set k v) (0 + 1) k _ HS3.out (by rw [List.length_set]; exact HK.out) (by decide) (by decide)).mono ?_
  rw [HG.out]
  rintro e w4 ⟨rfl, hS, hT⟩
  have HS4 : Hid (Sto w4 54 30 s g (zs.set k v) 2) := Lib.hid hS
  have HB4 := Lib.hid (HB3.out.trans (hT.below (B := w.heap.size) HX.out HB3.out.size))
  clear hS hT HS3 HB3
  by_cases hjk : (k : Int) = j
  · subst hjk
    go_wp2_with fail
    refine (meter_any s g _ _ _ HS4.out).mono ?_
    rintro e w5 ⟨rfl, rfl⟩
    go_wp2_with fail
    refine (begun4_any _).mono ?_
    rintro e w5 ⟨rfl, hb⟩
    have HB5 := Lib.hid (HB4.out.trans (hb.mono HB4.out.size))
    clear hb
    go_wp2_with fail
    go_ret
    exact ⟨rfl, HB5.out⟩
  · have hb0 : ((k : Int) == j) = false := by rw [beq_eq_false_iff_ne]; exact hjk
    have HV := Lib.hid (peekV_set zs k v j hjk)
    clear hjk
    go_wp2_with fail
    refine (peek_any s g (zs.set k v) 2 j _ HS4.out).mono ?_
    rw [HV.out]
    rintro e w5 ⟨rfl, rfl⟩
    go_wp2_with fail
    refine (meter_any s g _ _ _ HS4.out).mono ?_
    rintro e w5 ⟨rfl, rfl⟩
    go_wp2_with fail
    refine (begun4_any _).mono ?_
    rintro e w5 ⟨rfl, hb⟩
    have HB5 := Lib.hid (HB4.out.trans (hb.mono HB4.out.size))
    clear hb
    go_wp2_with fail
    go_ret
    exact ⟨rfl, HB5.out⟩

theorem walk (a : Option Addr) (cap : Nat) (zs : List Int) (i j v : Int) (w : World) (hrow : Row w .u32 a zs) (hm : zs.length ≤ maxLen) (hf : ∀ n ∈ zs, (Lit.int .u32 n).wf = true) (hi : (Lit.int .i64 i).wf = true) (hj : (Lit.int .i64 j).wf = true) (hv : (Lit.int .u32 v).wf = true) :
    Calls Try.prog 5 #[.slice a zs.length cap, .int .i64 i, .int .i64 j, .int .u32 v] w fun e w' => e = .returned (.bool true) ∧ Below w.heap.size w w' := by
  unfold maxLen at hm
  by_cases h1 : 8388608 < (zs.length : Int)
  · exact walk_none a cap _ i j v w h1 (by omega)
  · by_cases h2 : (1000 : Int) < (zs.length : Int)
    · exact walk_many a cap _ i j v w h2 (by omega)
    · by_cases h3 : i < 0 ∨ (zs.length : Int) ≤ i
      · exact walk_out a cap _ zs i j v w rfl (by omega) hrow h3
      · obtain ⟨k, rfl⟩ := Int.eq_ofNat_of_zero_le (show 0 ≤ i by omega)
        exact walk_in a cap _ zs k j v w rfl (by omega) hrow (by omega)

/-! ### The row -/
set_option maxRecDepth 100000 in
theorem lifted (os : Os) (started : os.Started) (H : Type) (enc : TypeId × Value → H) :
    ReturnsInHanded {} Try.checked os 5 .any (Rows.storeKeepsSpec.pre6 enc Try.prog Try.f5 Rows.storeKeepsRow.domain false) (Rows.storeKeepsSpec.post enc Try.prog Try.f5 false true false false) := by
  refine returnsInHanded_of_change (C := Try.checked) own started (by kernel_rfl) Try.func5
    (ChangeSpec.witness6 (enc := enc) (C := Try.checked) false ⟨#[], #[.slice none 0 0, .int .i64 0, .int .i64 0, .int .u32 0], []⟩ 8 (by kernel_rfl) (by kernel_rfl) (by kernel_rfl) (by kernel_rfl)) ?_
  intro W base args ds gs before hval0 hW hcnd _
  have hval : ∀ (j : Nat) t v, Try.f5.params[j]? = some t → args[j]? = some v → Value.okWide Try.prog W .any base t v := hval0
  have hW' := hW
  obtain ⟨p, q, hA0, hV, rfl, hfz, hnd⟩ := hW
  have hA : DataW.TrodAll enc Try.prog W 0 (fun _ => true) true Try.f5.params.toList args.toList ds p := hA0
  rw [Try.params5] at hA hval
  obtain ⟨v0, vs0, d0, ds0, p0, q0, hargs, rfl, rfl, h0, r0⟩ := trodAll_cons hA
  obtain ⟨v1, vs1, d1, ds1, p1, q1, rfl, rfl, rfl, h1, r1⟩ := trodAll_cons r0
  obtain ⟨v2, vs2, d2, ds2, p2, q2, rfl, rfl, rfl, h2, r2⟩ := trodAll_cons r1
  obtain ⟨v3, vs3, d3, ds3, p3, q3, rfl, rfl, rfl, h3, r3⟩ := trodAll_cons r2
  obtain ⟨rfl, rfl, rfl⟩ := trodAll_nil r3
  obtain rfl : args = #[v0, v1, v2, v3] := by cases args; simp_all
  obtain ⟨rfl, rfl⟩ := trodVars_none hV
  have k0 := h0
  have lt0 : ∀ x ∈ p0, x.block < W.heap.size := by obtain ⟨m, hm⟩ := k0; exact DataW.trod_lt m _ _ _ hm
  obtain ⟨a0, len0, cap0, rfl⟩ := okWide_slice Try.underlying31 (hval 0 31 v0 rfl rfl)
  obtain ⟨z0, hl0, ro0, f0, m0⟩ : ∃ zs : List Int, len0 = zs.length ∧ Row W .u32 a0 zs ∧ (∀ n ∈ zs, (Lit.int .u32 n).wf = true) ∧ len0 ≤ maxLen := by
    obtain ⟨fuel, hf⟩ := h0
    rcases open_ints Try.underlying31 Try.underlying30 (by kernel_rfl) hf with ⟨hcs, _⟩ | ⟨x, l, c, zs, hcs, _, hl, hm, hz, _, hcell, hwz⟩
    · simp [Value.cells] at hcs
      obtain ⟨rfl, rfl, rfl⟩ := hcs
      exact ⟨[], rfl, Row.nil _ _ _, (fun n h => by simp at h), Nat.zero_le _⟩
    · simp [Value.cells] at hcs
      obtain ⟨rfl, rfl, rfl⟩ := hcs
      exact row_open hl hm (by simpa using hz) hcell hwz
  subst hl0
  have k1 := h1
  have lt1 : ∀ x ∈ p1, x.block < W.heap.size := by obtain ⟨m, hm⟩ := k1; exact DataW.trod_lt m _ _ _ hm
  obtain ⟨a1, rfl, hd1, hp1, w1⟩ := open_int Try.underlying3 (hval 1 3 v1 rfl rfl) h1
  have k2 := h2
  have lt2 : ∀ x ∈ p2, x.block < W.heap.size := by obtain ⟨m, hm⟩ := k2; exact DataW.trod_lt m _ _ _ hm
  obtain ⟨a2, rfl, hd2, hp2, w2⟩ := open_int Try.underlying3 (hval 2 3 v2 rfl rfl) h2
  have k3 := h3
  have lt3 : ∀ x ∈ p3, x.block < W.heap.size := by obtain ⟨m, hm⟩ := k3; exact DataW.trod_lt m _ _ _ hm
  obtain ⟨a3, rfl, hd3, hp3, w3⟩ := open_int Try.underlying30 (hval 3 30 v3 rfl rfl) h3
  clear hA0 hval0
  refine (walk a0 cap0 z0 a1 a2 a3 W ro0 m0 f0 w1 w2 w3).mono fun e W' ⟨he, bel⟩ => ?_
  subst he
  exact ⟨_, rfl, _, _, _, [], _, [], hW', trodAll_mk1 (shut_bool Try.underlying4 _), (trodAll_cons_mk (Below.trod laidOut (by kernel_rfl) (of_decide_eq_true (by kernel_rfl)) k0 bel lt0) (trodAll_cons_mk (Below.trod laidOut (by kernel_rfl) (of_decide_eq_true (by kernel_rfl)) k1 bel lt1) (trodAll_cons_mk (Below.trod laidOut (by kernel_rfl) (of_decide_eq_true (by kernel_rfl)) k2 bel lt2) (trodAll_cons_mk (Below.trod laidOut (by kernel_rfl) (of_decide_eq_true (by kernel_rfl)) k3 bel lt3) trodAll_mk0)))), rfl, bel.frame _, fun h => by cases h⟩

theorem over : Rows.storeKeepsRow.holds Try.pinned (OpenSpec.ofChange Rows.storeKeepsSpec) :=
  OpenClaim.holds_of_wide 5 Try.f5 rfl rfl rfl rfl rfl rfl rfl ⟨rfl, rfl, rfl, rfl, rfl⟩ rfl rfl rfl rfl rfl (by kernel_rfl) Try.func5 (by kernel_rfl)
    (of_decide_eq_true (by kernel_rfl)) (by unfold Func.isWrapper; first | (rw [if_pos (by decide +kernel)]; kernel_rfl) | (rw [if_neg (by decide +kernel)]; exact ⟨rfl, rfl⟩))
    (fun os started H enc _ => lifted os started H enc)

theorem proved : Rows.StoreKeepsSaid := over
#print axioms proved
end Go.Proofs.Ytpnjanidkphkcaa.storeKeeps
