/- The statement RatioOrder holds for every input: in whichever order the numbers stand, their sum and their product are the same, and each number more makes a sum no less. No condition. -/
import Derived.Test.YtgoenaohpfjljaaRows
import Derived.Test.YtgoenaohpfjljaaBegun2
import Derived.Maps.AppendAt
import Derived.Deep.AppendLies
import Derived.OwnWalk
import Derived.WalkKit
import Derived.ProofKit
import Derived.OpenShut
import Derived.ChangeOld
import Derived.Carry
import Derived.Lib.SmallJoins
namespace Go.Proofs.Ytgoenaohpfjljaa.ratioOrder
open Go.ChangeShapes Go.WideShapes Go.ChangeAt Go.RowKit Go.Joins
open Go.Proofs.Ytgoenaohpfjljaa.Pk
set_option linter.unusedVariables false
set_option linter.unusedSimpArgs false

theorem own : ownKnob Try.prog.godebug = none := by kernel_rfl
theorem laidOut : laidOutB Try.prog = true := by kernel_rfl

theorem infoI64 : (Try.prog.info? 3).map (fun i => (i.zero, i.size, i.bytes)) = some (some (.int .i64 0), 1, 8) := by kernel_rfl
theorem reverse_take {zs : List Int} {m : Nat} (h : m < zs.length) : (zs.drop m).reverse = (zs.drop (m + 1)).reverse ++ [nth zs m] := by
  rw [List.drop_eq_getElem_cons h, List.reverse_cons]; unfold nth; simp [List.getD, h]
/-- What has been gathered, when the j first are still to come. -/
def Gone (zs : List Int) (w : World) (j : Nat) (v : Value) (wr : World) : Prop :=
  wr.ownsRow w.heap.size 3 1 v (zs.length - j) ((zs.drop j).reverse.map (Value.int .i64)) ∧ Below w.heap.size w wr
theorem Gone.start (zs : List Int) (w : World) : Gone zs w zs.length (.slice none 0 0) w := by
  refine ⟨?_, Below.refl _ _⟩
  rw [Nat.sub_self, List.drop_length]
  exact World.ownsRow_nil _ _ _ _

set_option maxHeartbeats 600000 in
theorem walk_many (a : Option Addr) (cap : Nat) (zs : List Int) (n : Int) (w : World) (h : 100 < (zs.length : Int)) (hm : (zs.length : Int) ≤ 9223372036854775807) :
    Calls Try.prog 6 #[.slice a zs.length cap, .int .i64 n] w fun e w' => e = .returned (.bool true) ∧ Below w.heap.size w w' := by
  go_enter Try.func6, Try.ntmps6
  go_wp2_with fail
  refine (begun2_any _).mono ?_
  rintro e w1 ⟨rfl, hb1⟩
  go_wp2_with fail
  go_ret
  exact ⟨rfl, hb1⟩

set_option maxHeartbeats 2000000 in
theorem walk_few (a : Option Addr) (cap : Nat) (zs : List Int) (n : Int) (w : World) (h : (zs.length : Int) ≤ 100) (hrow : Row w .i64 a zs) :
    Calls Try.prog 6 #[.slice a zs.length cap, .int .i64 n] w fun e w' => e = .returned (.bool true) ∧ Below w.heap.size w w' := by
  obtain ⟨i0, hi, hz0, hz1, hz2⟩ := info_parts infoI64
  go_enter Try.func6, Try.ntmps6
  go_wp2_with fail
  go_loopw [5, 6] (fun v i wr => ∃ (j : Nat) (x : Int), j ≤ zs.length ∧ x = j - 1 ∧ i = .int .i64 x ∧ Gone zs w j v wr) (fun _ i _ => (intOf i + 1).toNat)
  case atStart => exact ⟨zs.length, _, Nat.le_refl _, rfl, rfl, Gone.start zs w⟩
  case round =>
    obtain ⟨j, x, hj, hx, rfl, hown, hbel⟩ := hrel
    have hsz := hbel.size
    cases j with
    | succ m =>
      have hxm : x = (m : Int) := by omega
      subst hxm
      clear hx
      obtain ⟨b, off, rfl, hb, hcw⟩ := hrow m (by omega)
      have hc := (hbel.cell (p := ⟨b, off + m, none⟩) hb).trans hcw
      have hlen : zs.length - (m + 1) ≤ 100 := by omega
      have HW := Lib.hid hcw
      have HRv := Lib.hid hrow
      clear hcw hrow
      go_wp2_with (at_builtin; refine wpList_append_own _ rfl _ _ 22 rfl w.heap.size 3 i0 (.int .i64 0) 1 8 Try.underlying22 hi hz0 hz1 hz2 rfl (by decide) _ _ _ rfl (hown.alloc _) ⟨wr.heap.size, 0, none⟩ 1 1 [.int .i64 (nth zs m)] rfl rfl ?c1 ?c2 ?c3 ?c4 ?c5 ?c6)
      case c1 =>
        exact cell_one_new wr _ _
      case c2 => intro u hu; simp at hu; subst hu; rfl
      case c3 => unfold maxLen; omega
      case c4 => omega
      case c5 => simp; omega
      case c6 =>
        intro v' w1 hown' hgrow _
        have hbel1 : Below w.heap.size w w1 := (hbel.alloc hsz _).grown hgrow (by simp; omega) (owns_block hown)
        have HG : Hid (Gone zs w m v' w1) := by
          refine ⟨?_, hbel1⟩
          rw [reverse_take (by omega), List.map_append, List.map_reverse, List.map_drop, show zs.length - m = zs.length - (m + 1) + 1 by omega]
          exact hown'
        have hc1 := (hbel1.cell (p := ⟨b, off + m, none⟩) hb).trans HW.out
        clear hown' hgrow hbel1 hown hbel hc
        go_wp2
        go_roundw
        case rel => exact ⟨m, _, by omega, rfl, rfl, HG.out⟩
        case measure => simp [intOf]
    | zero =>
      have hxm : x = -1 := by omega
      subst hxm
      clear hx
      rw [List.drop_zero, Nat.sub_zero] at hown
      have hown2 : wr.ownsRow w.heap.size 3 1 u5 zs.reverse.length (zs.reverse.map (Value.int .i64)) := by rw [List.length_reverse]; exact hown
      obtain ⟨ab, cb, hv, hrb⟩ := Row.of_owns hown2
      rw [List.length_reverse] at hv
      subst hv
      have HL : Hid (zs.reverse.length = zs.length) := Lib.hid List.length_reverse
      have hadd : ∀ (a' : Option Addr) (c' : Nat) (w' : World), Row w' .i64 a' zs.reverse → Calls Try.prog 10 #[.slice a' zs.length c'] w' fun e w'' => e = .returned (.int .i64 (addL zs)) ∧ w' = w'' := by
        intro a' c' w' hr
        have := add_any a' c' zs.reverse w' hr (by rw [HL.out]; omega)
        rw [HL.out, addL_reverse] at this
        exact this
      have hmul : ∀ (a' : Option Addr) (c' : Nat) (w' : World), Row w' .i64 a' zs.reverse → Calls Try.prog 12 #[.slice a' zs.length c'] w' fun e w'' => e = .returned (.int .i64 (mulL zs)) ∧ w' = w'' := by
        intro a' c' w' hr
        have := mul_any a' c' zs.reverse w' hr (by rw [HL.out]; omega)
        rw [HL.out, mulL_reverse] at this
        exact this
      have HA := Lib.hid hadd
      have HM := Lib.hid hmul
      have HO := Lib.hid hown
      have HR := Lib.hid (hrow.below hbel (Nat.le_refl _))
      have HB := Lib.hid hbel
      have HRB := Lib.hid hrb
      have HRv := Lib.hid hrow
      clear hadd hmul hown hown2 hrb hbel hrow
      go_wp2_with fail
      refine (HA.out _ _ _ HRB.out).mono ?_
      rintro e w2 ⟨rfl, rfl⟩
      go_wp2_with fail
      refine (add_any _ _ _ _ HR.out (by omega)).mono ?_
      rintro e w2 ⟨rfl, rfl⟩
      go_wp2_with fail
      refine (HM.out _ _ _ HRB.out).mono ?_
      rintro e w2 ⟨rfl, rfl⟩
      go_wp2_with fail
      refine (mul_any _ _ _ _ HR.out (by omega)).mono ?_
      rintro e w2 ⟨rfl, rfl⟩
      go_wp2_with (at_builtin; refine wpList_append_own _ rfl _ _ 22 rfl w.heap.size 3 i0 (.int .i64 0) 1 8 Try.underlying22 hi hz0 hz1 hz2 rfl (by decide) _ _ _ rfl (HO.out.alloc _) ⟨wr.heap.size, 0, none⟩ 1 1 [.int .i64 n] rfl rfl ?d1 ?d2 ?d3 ?d4 ?d5 ?d6)
      case d1 =>
        exact cell_one_new wr _ _
      case d2 => intro u hu; simp at hu; subst hu; rfl
      case d3 => unfold maxLen; omega
      case d4 => omega
      case d5 => simp; omega
      case d6 =>
        intro v' w1 hown' hgrow _
        have hbel1 : Below w.heap.size w w1 := (HB.out.alloc hsz _).grown hgrow (by simp; omega) (owns_block HO.out)
        have hown3 : w1.ownsRow w.heap.size 3 1 v' (zs.reverse ++ [n]).length ((zs.reverse ++ [n]).map (Value.int .i64)) := by
          rw [List.length_append, HL.out, List.map_append, List.map_reverse]; exact hown'
        obtain ⟨am, cm, hv, hrm⟩ := Row.of_owns hown3
        rw [List.length_append, HL.out] at hv
        have hv' : v' = .slice am (zs.length + 1) cm := hv
        subst hv'
        have hS : addL (zs.reverse ++ [n]) = cnt (addL zs + cnt n) := by rw [addL_snoc, addL_reverse]
        have hS2 : addL [addL zs, n] = cnt (addL zs + cnt n) := by rw [addL_two, cnt_id (addL_bd zs).1 (addL_bd zs).2]
        have hle : addL zs ≤ cnt (addL zs + cnt n) := by
          have h1 := addL_bd zs
          have h2 := cnt_bd n
          rw [cnt_min]; omega
        generalize hs : cnt (addL zs + cnt n) = S at *
        have hadd3 : ∀ (w' : World), Row w' .i64 am (zs.reverse ++ [n]) → Calls Try.prog 10 #[.slice am (zs.length + 1) cm] w' fun e w'' => e = .returned (.int .i64 S) ∧ w' = w'' := by
          intro w' hr
          have := add_any am cm (zs.reverse ++ [n]) w' hr (by rw [List.length_append, HL.out]; simp; omega)
          rw [List.length_append, HL.out, hS] at this
          exact this
        have hadd4 : ∀ (w' : World) (m : Nat), m = w'.heap.size → Calls Try.prog 10 #[.slice (some ⟨m, 0, none⟩) 2 2] (w'.alloc (.cells #[.int .i64 (addL zs), .int .i64 n] 3)) fun e w'' => e = .returned (.int .i64 S) ∧ w'.alloc (.cells #[.int .i64 (addL zs), .int .i64 n] 3) = w'' := by
          rintro w' m rfl
          have := add_any (some ⟨w'.heap.size, 0, none⟩) 2 [addL zs, n] _ (Row.lit w' .i64 [addL zs, n] 3) (by simp)
          rw [hS2] at this
          exact this
        have HA3 := Lib.hid hadd3
        have HA4 := Lib.hid hadd4
        have HRM := Lib.hid hrm
        have HBel1 := Lib.hid hbel1
        have HR1 := Lib.hid (HRv.out.below hbel1 (Nat.le_refl _))
        clear hS hS2 hs hadd3 hadd4 hrm hown' hown3 hgrow hbel1 hv
        go_wp2_with fail
        refine (begun2_any _).mono ?_
        rintro e w2 ⟨rfl, hb2⟩
        have HB2 := Lib.hid hb2
        have HBe := Lib.hid (HBel1.out.trans (hb2.mono HBel1.out.size))
        clear hb2
        go_wp2_with fail
        refine (HA3.out _ (HRM.out.later HB2.out)).mono ?_
        rintro e w3 ⟨rfl, rfl⟩
        go_wp2_with fail
        refine (add_any _ _ _ _ (HR1.out.later HB2.out) (by omega)).mono ?_
        rintro e w3 ⟨rfl, rfl⟩
        go_wp2_with fail
        refine (add_any _ _ _ _ (HR1.out.later HB2.out) (by omega)).mono ?_
        rintro e w3 ⟨rfl, rfl⟩
        go_wp2_with fail
        refine (HA4.out _ _ rfl).mono ?_
        rintro e w3 ⟨rfl, rfl⟩
        go_wp2_with fail
        refine (HA3.out _ ((HRM.out.later HB2.out).alloc _)).mono ?_
        rintro e w3 ⟨rfl, rfl⟩
        go_wp2_with fail
        go_ret
        exact ⟨rfl, HBe.out.trans ((below_new w2 _).mono HBe.out.size)⟩

theorem walk (a : Option Addr) (cap : Nat) (zs : List Int) (n : Int) (w : World) (hrow : Row w .i64 a zs) (hm : zs.length ≤ maxLen) (hf : ∀ n ∈ zs, (Lit.int .i64 n).wf = true) (ha : (Lit.int .i64 n).wf = true) :
    Calls Try.prog 6 #[.slice a zs.length cap, .int .i64 n] w fun e w' => e = .returned (.bool true) ∧ Below w.heap.size w w' := by
  unfold maxLen at hm
  by_cases h : 100 < (zs.length : Int)
  · exact walk_many a cap zs n w h (by omega)
  · exact walk_few a cap zs n w (by omega) hrow

/-! ### The row -/
set_option maxRecDepth 100000 in
theorem lifted (os : Os) (started : os.Started) (H : Type) (enc : TypeId × Value → H) :
    ReturnsInHanded {} Try.checked os 6 .any (Rows.ratioOrderSpec.pre6 enc Try.prog Try.f6 Rows.ratioOrderRow.domain false) (Rows.ratioOrderSpec.post enc Try.prog Try.f6 false true false false) := by
  refine returnsInHanded_of_change (C := Try.checked) own started (by kernel_rfl) Try.func6
    (ChangeSpec.witness6 (enc := enc) (C := Try.checked) false ⟨#[], #[.slice none 0 0, .int .i64 0], []⟩ 8 (by kernel_rfl) (by kernel_rfl) (by kernel_rfl) (by kernel_rfl)) ?_
  intro W base args ds gs before hval0 hW hcnd _
  have hval : ∀ (j : Nat) t v, Try.f6.params[j]? = some t → args[j]? = some v → Value.okWide Try.prog W .any base t v := hval0
  have hW' := hW
  obtain ⟨p, q, hA0, hV, rfl, hfz, hnd⟩ := hW
  have hA : DataW.TrodAll enc Try.prog W 0 (fun _ => true) true Try.f6.params.toList args.toList ds p := hA0
  rw [Try.params6] at hA hval
  obtain ⟨v0, vs0, d0, ds0, p0, q0, hargs, rfl, rfl, h0, r0⟩ := trodAll_cons hA
  obtain ⟨v1, vs1, d1, ds1, p1, q1, rfl, rfl, rfl, h1, r1⟩ := trodAll_cons r0
  obtain ⟨rfl, rfl, rfl⟩ := trodAll_nil r1
  obtain rfl : args = #[v0, v1] := by cases args; simp_all
  obtain ⟨rfl, rfl⟩ := trodVars_none hV
  have k0 := h0
  have lt0 : ∀ x ∈ p0, x.block < W.heap.size := by obtain ⟨m, hm⟩ := k0; exact DataW.trod_lt m _ _ _ hm
  obtain ⟨a0, len0, cap0, rfl⟩ := okWide_slice Try.underlying22 (hval 0 22 v0 rfl rfl)
  obtain ⟨z0, hl0, ro0, f0, m0⟩ : ∃ zs : List Int, len0 = zs.length ∧ Row W .i64 a0 zs ∧ (∀ n ∈ zs, (Lit.int .i64 n).wf = true) ∧ len0 ≤ maxLen := by
    obtain ⟨fuel, hf⟩ := h0
    rcases open_ints Try.underlying22 Try.underlying3 (by kernel_rfl) hf with ⟨hcs, _⟩ | ⟨x, l, c, zs, hcs, _, hl, hm, hz, _, hcell, hwz⟩
    · simp [Value.cells] at hcs
      obtain ⟨rfl, rfl, rfl⟩ := hcs
      exact ⟨[], rfl, Row.nil _ _ _, (fun n h => by simp at h), Nat.zero_le _⟩
    · simp [Value.cells] at hcs
      obtain ⟨rfl, rfl, rfl⟩ := hcs
      exact row_open hl hm (by simpa using hz) hcell hwz
  subst hl0
  have k1 := h1
  have lt1 : ∀ x ∈ p1, x.block < W.heap.size := by obtain ⟨m, hm⟩ := k1; exact DataW.trod_lt m _ _ _ hm
  obtain ⟨a1, rfl, hd1, hp1, w1⟩ := open_int Try.underlying3 (hval 1 3 v1 rfl rfl) h1
  clear hA0 hval0
  refine (walk a0 cap0 z0 a1 W ro0 m0 f0 w1).mono fun e W' ⟨he, bel⟩ => ?_
  subst he
  exact ⟨_, rfl, _, _, _, [], _, [], hW', trodAll_mk1 (shut_bool Try.underlying4 _), (trodAll_cons_mk (Below.trod laidOut (by kernel_rfl) (of_decide_eq_true (by kernel_rfl)) k0 bel lt0) (trodAll_cons_mk (Below.trod laidOut (by kernel_rfl) (of_decide_eq_true (by kernel_rfl)) k1 bel lt1) trodAll_mk0)), rfl, bel.frame _, fun h => by cases h⟩

theorem over : Rows.ratioOrderRow.holds Try.pinned (OpenSpec.ofChange Rows.ratioOrderSpec) :=
  OpenClaim.holds_of_wide 6 Try.f6 rfl rfl rfl rfl rfl rfl rfl ⟨rfl, rfl, rfl, rfl, rfl⟩ rfl rfl rfl rfl rfl (by kernel_rfl) Try.func6 (by kernel_rfl)
    (of_decide_eq_true (by kernel_rfl)) (by unfold Func.isWrapper; first | (rw [if_pos (by decide +kernel)]; kernel_rfl) | (rw [if_neg (by decide +kernel)]; exact ⟨rfl, rfl⟩))
    (fun os started H enc _ => lifted os started H enc)

theorem proved : Rows.RatioOrderSaid := over
#print axioms proved
end Go.Proofs.Ytgoenaohpfjljaa.ratioOrder
