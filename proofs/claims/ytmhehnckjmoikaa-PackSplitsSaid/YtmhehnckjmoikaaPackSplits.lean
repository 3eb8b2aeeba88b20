/- The statement PackSplits holds for every input: the program splits a word and joins numbers, or tells what is wrong, as the document does, and the chapter's examples hold. No condition. -/
import Derived.Test.YtmhehnckjmoikaaRows
import Derived.Test.YtmhehnckjmoikaaPackAny
import Derived.Test.YtmhehnckjmoikaaBegun1
import Derived.WalkKit
import Derived.ProofKit
import Derived.OpenShut
import Derived.ChangeOld
import Derived.Carry
import Derived.Lib.SmallJoins
namespace Go.Proofs.Ytmhehnckjmoikaa.packSplits
open Go.ChangeShapes Go.WideShapes Go.ChangeAt Go.RowKit Go.Joins
open Go.Proofs.Ytmhehnckjmoikaa.Pk
set_option linter.unusedVariables false
set_option linter.unusedSimpArgs false

theorem own : ownKnob Try.prog.godebug = none := by kernel_rfl
theorem laidOut : laidOutB Try.prog = true := by kernel_rfl

theorem splitL_length (x : Int) (zs : List Int) : (splitL x zs).length ≤ zs.length := by
  by_cases h : splitE x zs = 0
  · rw [splitL_yes h, splitTo_length]; exact Nat.le_refl _
  · rw [splitL_bad h]; exact Nat.zero_le _

set_option maxHeartbeats 600000 in
theorem walk_many (x : Int) (al : Option Addr) (cl : Nat) (ls : List Int) (a : Option Addr) (cap : Nat) (zs : List Int) (w : World) (h : 100 < ls.length ∨ 100 < zs.length) :
    Calls Try.prog 6 #[.int .u32 x, .slice al ls.length cl, .slice a zs.length cap] w fun e w' => e = .returned (.bool true) ∧ Below w.heap.size w w' := by
  by_cases h1 : (100 : Int) < ls.length
  · clear h
    go_enter Try.func6, Try.ntmps6
    go_wp2_with fail
    refine (begun_any _).mono ?_
    rintro e w1 ⟨rfl, hb1⟩
    go_wp2_with fail
    go_ret
    exact ⟨rfl, hb1⟩
  · have h2 : (100 : Int) < zs.length := by omega
    clear h
    go_enter Try.func6, Try.ntmps6
    go_wp2_with fail
    refine (begun_any _).mono ?_
    rintro e w1 ⟨rfl, hb1⟩
    go_wp2_with fail
    go_ret
    exact ⟨rfl, hb1⟩

set_option maxHeartbeats 600000 in
theorem walk_few (x : Int) (al : Option Addr) (cl : Nat) (ls : List Int) (a : Option Addr) (cap : Nat) (zs : List Int) (w : World) (h0 : 0 ≤ x) (h1 : x ≤ 4294967295)
    (hl : Row w .u32 al ls) (hu : U32s ls) (hz : Row w .i64 a zs) (hn : (ls.length : Int) ≤ 100) (hm : (zs.length : Int) ≤ 100) :
    Calls Try.prog 6 #[.int .u32 x, .slice al ls.length cl, .slice a zs.length cap] w fun e w' => e = .returned (.bool true) ∧ Below w.heap.size w w' := by
  have hk := splitL_length x zs
  have hS : ((splitL x zs).length : Int) ≤ 9223372036854775807 := by omega
  have hZ : (zs.length : Int) ≤ 9223372036854775807 := by omega
  clear hk
  go_enter Try.func6, Try.ntmps6
  go_wp2_with fail
  refine (split_any _ _ _ _ _ h0 h1 hz).mono ?_
  rintro e w1 ⟨a1, c1, rfl, hr1, hb1⟩
  have HB1 := Lib.hid hb1
  have HR1 := Lib.hid hr1
  clear hb1 hr1
  go_wp2_with fail
  refine (refSplit_any _ _ _ _ _ h0 h1 (hz.later HB1.out) hZ).mono ?_
  rintro e w2 ⟨a2, c2, rfl, hr2, hb2⟩
  have HB2 := Lib.hid (below_step HB1.out hb2)
  have HR1 := Lib.hid (HR1.out.later hb2)
  have HR2 := Lib.hid hr2
  clear hb2 hr2
  go_wp2_with fail
  refine (join_any _ _ _ _ _ _ _ (hl.later HB2.out) hu (hz.later HB2.out)).mono ?_
  rintro e w3 ⟨rfl, hd3⟩
  have HB3 := Lib.hid (below_step HB2.out hd3.new)
  have HR1 := Lib.hid (HR1.out.later hd3.new)
  have HR2 := Lib.hid (HR2.out.later hd3.new)
  clear hd3
  go_wp2_with fail
  refine (refJoin_any _ _ _ _ _ _ _ (hl.later HB3.out) hu (hz.later HB3.out) hZ).mono ?_
  rintro e w4 ⟨rfl, hd4⟩
  have HB4 := Lib.hid (below_step HB3.out hd4.new)
  have HR1 := Lib.hid (HR1.out.later hd4.new)
  have HR2 := Lib.hid (HR2.out.later hd4.new)
  clear hd4
  go_wp2_with fail
  refine (begun_any _).mono ?_
  rintro e w5 ⟨rfl, hb5⟩
  have HB5 := Lib.hid (below_step HB4.out hb5)
  have HR1 := Lib.hid (HR1.out.later hb5)
  have HR2 := Lib.hid (HR2.out.later hb5)
  clear hb5
  go_wp2_with fail
  refine (same_yes _ _ _ _ _ _ HR1.out HR2.out hS).mono ?_
  rintro e w6 ⟨rfl, hd6⟩
  have HB6 := Lib.hid (below_step HB5.out hd6.new)
  clear hd6
  go_wp2_with fail
  go_ret
  exact ⟨rfl, HB6.out⟩

theorem walk (a0 : Int) (a1 : Option Addr) (cap1 : Nat) (z1 : List Int) (a2 : Option Addr) (cap2 : Nat) (z2 : List Int) (w : World) (w0 : (Lit.int .u32 a0).wf = true)
    (r1 : Row w .u32 a1 z1) (m1 : z1.length ≤ maxLen) (f1 : ∀ n ∈ z1, (Lit.int .u32 n).wf = true) (r2 : Row w .i64 a2 z2) (m2 : z2.length ≤ maxLen) (f2 : ∀ n ∈ z2, (Lit.int .i64 n).wf = true) :
    Calls Try.prog 6 #[.int .u32 a0, .slice a1 z1.length cap1, .slice a2 z2.length cap2] w fun e w' => e = .returned (.bool true) ∧ Below w.heap.size w w' := by
  obtain ⟨h0, h1⟩ := bounds_u32 w0
  by_cases h : 100 < z1.length ∨ 100 < z2.length
  · exact walk_many a0 a1 cap1 z1 a2 cap2 z2 w h
  · exact walk_few a0 a1 cap1 z1 a2 cap2 z2 w h0 h1 r1 (u32s_of f1) r2 (by omega) (by omega)

/-! ### The row -/
set_option maxRecDepth 100000 in
theorem lifted (os : Os) (started : os.Started) (H : Type) (enc : TypeId × Value → H) :
    ReturnsInHanded {} Try.checked os 6 .any (Rows.packSplitsSpec.pre6 enc Try.prog Try.f6 Rows.packSplitsRow.domain false) (Rows.packSplitsSpec.post enc Try.prog Try.f6 false true false false) := by
  refine returnsInHanded_of_change (C := Try.checked) own started (by kernel_rfl) Try.func6
    (ChangeSpec.witness6 (enc := enc) (C := Try.checked) false ⟨#[], #[.int .u32 0, .slice none 0 0, .slice none 0 0], []⟩ 8 (by kernel_rfl) (by kernel_rfl) (by kernel_rfl) (by kernel_rfl)) ?_
  intro W base args ds gs before hval0 hW hcnd _
  have hval : ∀ (j : Nat) t v, Try.f6.params[j]? = some t → args[j]? = some v → Value.okWide Try.prog W .any base t v := hval0
  have hW' := hW
  obtain ⟨p, q, hA0, hV, rfl, hfz, hnd⟩ := hW
  have hA : DataW.TrodAll enc Try.prog W 0 (fun _ => true) true Try.f6.params.toList args.toList ds p := hA0
  rw [Try.params6] at hA hval
  obtain ⟨v0, vs0, d0, ds0, p0, q0, hargs, rfl, rfl, h0, r0⟩ := trodAll_cons hA
  obtain ⟨v1, vs1, d1, ds1, p1, q1, rfl, rfl, rfl, h1, r1⟩ := trodAll_cons r0
  obtain ⟨v2, vs2, d2, ds2, p2, q2, rfl, rfl, rfl, h2, r2⟩ := trodAll_cons r1
  obtain ⟨rfl, rfl, rfl⟩ := trodAll_nil r2
  obtain rfl : args = #[v0, v1, v2] := by cases args; simp_all
  obtain ⟨rfl, rfl⟩ := trodVars_none hV
  have k0 := h0
  have lt0 : ∀ x ∈ p0, x.block < W.heap.size := by obtain ⟨m, hm⟩ := k0; exact DataW.trod_lt m _ _ _ hm
  obtain ⟨a0, rfl, hd0, hp0, w0⟩ := open_int Try.underlying22 (hval 0 22 v0 rfl rfl) h0
  have k1 := h1
  have lt1 : ∀ x ∈ p1, x.block < W.heap.size := by obtain ⟨m, hm⟩ := k1; exact DataW.trod_lt m _ _ _ hm
  obtain ⟨a1, len1, cap1, rfl⟩ := okWide_slice Try.underlying36 (hval 1 36 v1 rfl rfl)
  obtain ⟨z1, hl1, ro1, f1, m1⟩ : ∃ zs : List Int, len1 = zs.length ∧ Row W .u32 a1 zs ∧ (∀ n ∈ zs, (Lit.int .u32 n).wf = true) ∧ len1 ≤ maxLen := by
    obtain ⟨fuel, hf⟩ := h1
    rcases open_ints Try.underlying36 Try.underlying22 (by kernel_rfl) hf with ⟨hcs, _⟩ | ⟨x, l, c, zs, hcs, _, hl, hm, hz, _, hcell, hwz⟩
    · simp [Value.cells] at hcs
      obtain ⟨rfl, rfl, rfl⟩ := hcs
      exact ⟨[], rfl, Row.nil _ _ _, (fun n h => by simp at h), Nat.zero_le _⟩
    · simp [Value.cells] at hcs
      obtain ⟨rfl, rfl, rfl⟩ := hcs
      exact row_open hl hm (by simpa using hz) hcell hwz
  subst hl1
  have k2 := h2
  have lt2 : ∀ x ∈ p2, x.block < W.heap.size := by obtain ⟨m, hm⟩ := k2; exact DataW.trod_lt m _ _ _ hm
  obtain ⟨a2, len2, cap2, rfl⟩ := okWide_slice Try.underlying37 (hval 2 37 v2 rfl rfl)
  obtain ⟨z2, hl2, ro2, f2, m2⟩ : ∃ zs : List Int, len2 = zs.length ∧ Row W .i64 a2 zs ∧ (∀ n ∈ zs, (Lit.int .i64 n).wf = true) ∧ len2 ≤ maxLen := by
    obtain ⟨fuel, hf⟩ := h2
    rcases open_ints Try.underlying37 Try.underlying3 (by kernel_rfl) hf with ⟨hcs, _⟩ | ⟨x, l, c, zs, hcs, _, hl, hm, hz, _, hcell, hwz⟩
    · simp [Value.cells] at hcs
      obtain ⟨rfl, rfl, rfl⟩ := hcs
      exact ⟨[], rfl, Row.nil _ _ _, (fun n h => by simp at h), Nat.zero_le _⟩
    · simp [Value.cells] at hcs
      obtain ⟨rfl, rfl, rfl⟩ := hcs
      exact row_open hl hm (by simpa using hz) hcell hwz
  subst hl2
  clear hA0 hval0
  refine (walk a0 a1 cap1 z1 a2 cap2 z2 W w0 ro1 m1 f1 ro2 m2 f2).mono fun e W' ⟨he, bel⟩ => ?_
  subst he
  exact ⟨_, rfl, _, _, _, [], _, [], hW', trodAll_mk1 (shut_bool Try.underlying4 _), (trodAll_cons_mk (Below.trod laidOut (by kernel_rfl) (of_decide_eq_true (by kernel_rfl)) k0 bel lt0) (trodAll_cons_mk (Below.trod laidOut (by kernel_rfl) (of_decide_eq_true (by kernel_rfl)) k1 bel lt1) (trodAll_cons_mk (Below.trod laidOut (by kernel_rfl) (of_decide_eq_true (by kernel_rfl)) k2 bel lt2) trodAll_mk0))), rfl, bel.frame _, fun h => by cases h⟩

theorem over : Rows.packSplitsRow.holds Try.pinned (OpenSpec.ofChange Rows.packSplitsSpec) :=
  OpenClaim.holds_of_wide 6 Try.f6 rfl rfl rfl rfl rfl rfl rfl ⟨rfl, rfl, rfl, rfl, rfl⟩ rfl rfl rfl rfl rfl (by kernel_rfl) Try.func6 (by kernel_rfl)
    (of_decide_eq_true (by kernel_rfl)) (by unfold Func.isWrapper; first | (rw [if_pos (by decide +kernel)]; kernel_rfl) | (rw [if_neg (by decide +kernel)]; exact ⟨rfl, rfl⟩))
    (fun os started H enc _ => lifted os started H enc)

theorem proved : Rows.PackSplitsSaid := over
#print axioms proved
end Go.Proofs.Ytmhehnckjmoikaa.packSplits
