/- ReapPlays holds: whatever is done between the steps of the reaping, each step tells and does what the document says, with so few accesses, and all stands just so; and the chapter's example holds. No condition. -/
import Derived.Test.YtjmifnljckmimaaGreatRows
import Derived.Test.YtjmifnljckmimaaGreatTallyActEtc
import Derived.Test.YtjmifnljckmimaaGreatRecsEtc
import Derived.WalkKit
import Derived.ProofKit
import Derived.OpenShut
import Derived.ChangeOld
import Derived.Carry
import Derived.Lib.SmallJoins
import Derived.ChangeMaps5
namespace Go.Proofs.YtjmifnljckmimaaGreat.reapPlays
open Go.ChangeShapes Go.WideShapes Go.ChangeAt Go.RowKit Go.Joins
open Go.Proofs.YtjmifnljckmimaaGreat.Pk
set_option linter.unusedVariables false
set_option linter.unusedSimpArgs false
theorem own : ownKnob Tryz.prog.godebug = none := by kernel_rfl
theorem laidOut : laidOutB Tryz.prog = true := by kernel_rfl
theorem walk (n v r k : Int) (a : Option Addr) (cap : Nat) (rs : List (List mW)) (tb : Bool) (w : World) (_ : (Lit.int .i64 n).wf = true) (_ : (Lit.int .i64 v).wf = true) (_ : (Lit.int .i64 r).wf = true) (_ : (Lit.int .i64 k).wf = true) (hrs : yV w a [.int .u8, .int .i64, .int .i64, .int .i64, .int .i64, .int .i64] rs) (hm : rs.length ≤ maxLen) :
    Calls Tryz.prog 3 #[.agg #[.int .i64 n, .int .i64 v, .int .i64 r, .int .i64 k], .slice a rs.length cap, .bool tb] w fun e w' => e = .returned (.bool true) ∧ Below w.heap.size w w' :=
  zn n v r k a cap rs tb w hrs
set_option maxRecDepth 100000 in
theorem lifted (os : Os) (started : os.Started) (H : Type) (enc : TypeId × Value → H) :
    ReturnsInHanded {} Tryz.checked os 3 .any (Rows.reapPlaysSpec.pre6 enc Tryz.prog Tryz.f3 Rows.reapPlaysRow.domain false) (Rows.reapPlaysSpec.post enc Tryz.prog Tryz.f3 false true false false) := by
  refine returnsInHanded_of_change (C := Tryz.checked) own started (by kernel_rfl) Tryz.func3
    (ChangeSpec.witness6 (enc := enc) (C := Tryz.checked) false ⟨#[], #[.agg #[.int .i64 0, .int .i64 0, .int .i64 0, .int .i64 0], .slice none 0 0, .bool false], []⟩ 8 (by kernel_rfl) (by kernel_rfl) (by kernel_rfl) (by kernel_rfl)) ?_
  intro W base args ds gs before hval0 hW hcnd _
  have hval : ∀ (j : Nat) t v, Tryz.f3.params[j]? = some t → args[j]? = some v → Value.okWide Tryz.prog W .any base t v := hval0
  have hW' := hW
  obtain ⟨p, q, hA0, hV, rfl, hfz, hnd⟩ := hW
  have hA : DataW.TrodAll enc Tryz.prog W 0 (fun _ => true) true Tryz.f3.params.toList args.toList ds p := hA0
  rw [Tryz.params3] at hA hval
  obtain ⟨v0, vs0, d0, ds0, p0, q0, hargs, rfl, rfl, h0, r0⟩ := trodAll_cons hA
  obtain ⟨v1, vs1, d1, ds1, p1, q1, rfl, rfl, rfl, h1, r1⟩ := trodAll_cons r0
  obtain ⟨v2, vs2, d2, ds2, p2, q2, rfl, rfl, rfl, h2, r2⟩ := trodAll_cons r1
  obtain ⟨rfl, rfl, rfl⟩ := trodAll_nil r2
  obtain rfl : args = #[v0, v1, v2] := by cases args; simp_all
  obtain ⟨rfl, rfl⟩ := trodVars_none hV
  have k0 := h0
  have lt0 : ∀ x ∈ p0, x.block < W.heap.size := by obtain ⟨m, hm⟩ := k0; exact DataW.trod_lt m _ _ _ hm
  obtain ⟨c00, c01, c02, c03, y00, y01, y02, y03, m0, rfl, hd0, hp0, hy00, hy01, hy02, hy03⟩ := open_agg4 Tryz.underlying23 (by kernel_rfl) (by kernel_rfl) (hval 0 23 v0 rfl rfl) h0
  obtain ⟨a00, e00, hdd00, w00⟩ := DataW.trod_int Tryz.underlying3 hy00
  obtain ⟨a01, e01, hdd01, w01⟩ := DataW.trod_int Tryz.underlying3 hy01
  obtain ⟨a02, e02, hdd02, w02⟩ := DataW.trod_int Tryz.underlying3 hy02
  obtain ⟨a03, e03, hdd03, w03⟩ := DataW.trod_int Tryz.underlying3 hy03
  simp at e00 e01 e02 e03
  subst e00 e01 e02 e03
  have k1 := h1
  have lt1 : ∀ x ∈ p1, x.block < W.heap.size := by obtain ⟨m, hm⟩ := k1; exact DataW.trod_lt m _ _ _ hm
  obtain ⟨a1, len1, cap1, rfl⟩ := okWide_slice Tryz.underlying24 (hval 1 24 v1 rfl rfl)
  obtain ⟨z1, hl1, ro1, m1⟩ : ∃ rs : List (List mW), len1 = rs.length ∧ yV W a1 [.int .u8, .int .i64, .int .i64, .int .i64, .int .i64, .int .i64] rs ∧ len1 ≤ maxLen := by
    obtain ⟨fuel, hf⟩ := h1
    rcases Mh Tryz.underlying24 [.int .u8, .int .i64, .int .i64, .int .i64, .int .i64, .int .i64] (by decide) (vL Tryz.underlying33 [[.int .u8], [.int .i64], [.int .i64], [.int .i64], [.int .i64, .int .i64]] ⟨rfl, (ng Tryz.underlying5 (by kernel_rfl)), rfl, (ng Tryz.underlying3 (by kernel_rfl)), rfl, (ng Tryz.underlying3 (by kernel_rfl)), rfl, (ng Tryz.underlying3 (by kernel_rfl)), rfl, (vL Tryz.underlying31 [[.int .i64], [.int .i64]] ⟨rfl, (ng Tryz.underlying3 (by kernel_rfl)), rfl, (ng Tryz.underlying3 (by kernel_rfl)), trivial⟩ (by kernel_rfl)), trivial⟩ (by kernel_rfl)) hf with hcs | ⟨x, l, c, rs, hcs, hm, hl, hr⟩
    · simp [Value.cells] at hcs
      obtain ⟨rfl, rfl, rfl⟩ := hcs
      exact ⟨[], rfl, yV.nil _ _ _, Nat.zero_le _⟩
    · simp [Value.cells] at hcs
      obtain ⟨rfl, rfl, rfl⟩ := hcs
      exact ⟨rs, hl.symm, hr, hm⟩
  subst hl1
  have k2 := h2
  have lt2 : ∀ x ∈ p2, x.block < W.heap.size := by obtain ⟨m, hm⟩ := k2; exact DataW.trod_lt m _ _ _ hm
  obtain ⟨a2, rfl, hd2, hp2⟩ := open_bool Tryz.underlying4 (hval 2 4 v2 rfl rfl) h2
  clear hA0 hval0
  refine (walk a00 a01 a02 a03 a1 cap1 z1 a2 W w00 w01 w02 w03 ro1 m1).mono fun e W' ⟨he, kR⟩ => ?_
  subst he
  exact ⟨_, rfl, _, _, _, [], _, [], hW', trodAll_mk1 (shut_bool Tryz.underlying4 _), (trodAll_cons_mk (Below.trod laidOut (by kernel_rfl) (of_decide_eq_true (by kernel_rfl)) k0 kR lt0) (trodAll_cons_mk (Below.trod laidOut (by kernel_rfl) (of_decide_eq_true (by kernel_rfl)) k1 kR lt1) (trodAll_cons_mk (Below.trod laidOut (by kernel_rfl) (of_decide_eq_true (by kernel_rfl)) k2 kR lt2) trodAll_mk0))), rfl, kR.frame _, fun h => by cases h⟩
theorem over : Rows.reapPlaysRow.holds Tryz.pinned (OpenSpec.ofChange Rows.reapPlaysSpec) :=
  OpenClaim.holds_of_wide 3 Tryz.f3 rfl rfl rfl rfl rfl rfl rfl ⟨rfl, rfl, rfl, rfl, rfl⟩ rfl rfl rfl rfl rfl (by kernel_rfl) Tryz.func3 (by kernel_rfl)
    (of_decide_eq_true (by kernel_rfl)) (by unfold Func.isWrapper; first | (rw [if_pos (by decide +kernel)]; kernel_rfl) | (rw [if_neg (by decide +kernel)]; exact ⟨rfl, rfl⟩))
    (fun os started H enc _ => lifted os started H enc)
theorem proved : Rows.ReapPlaysSaid := over
#print axioms proved
end Go.Proofs.YtjmifnljckmimaaGreat.reapPlays
