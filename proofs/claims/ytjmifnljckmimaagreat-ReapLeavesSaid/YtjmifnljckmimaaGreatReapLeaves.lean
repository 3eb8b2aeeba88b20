/- ReapLeaves holds: behind a whole count, flood and reaping, and all steps of the grave, just those objects are left that could be reached from one that was named from outside, each with the fields it had; all other blocks are clean; the reaping has at most N times W steps; and the chapter's example holds. No condition. -/
import Derived.Test.YtjmifnljckmimaaGreatRows
import Derived.Test.YtjmifnljckmimaaGreatReapFinEtc
import Derived.WalkKit
import Derived.ProofKit
import Derived.OpenShut
import Derived.ChangeOld
import Derived.Carry
import Derived.Lib.SmallJoins
import Derived.ChangeMaps5
namespace Go.Proofs.YtjmifnljckmimaaGreat.reapLeaves
open Go.ChangeShapes Go.WideShapes Go.ChangeAt Go.RowKit Go.Joins
open Go.Proofs.YtjmifnljckmimaaGreat.Pk
set_option linter.unusedVariables false
set_option linter.unusedSimpArgs false
theorem own : ownKnob Tryz.prog.godebug = none := by kernel_rfl
theorem laidOut : laidOutB Tryz.prog = true := by kernel_rfl
theorem walk (n : Int) (a : Option Addr) (cap : Nat) (rs : List (List Fld)) (b : Option Addr) (capb : Nat) (es : List (List Fld)) (d1 : Option Addr) (capd1 : Nat) (hs : List Int) (w : World) (hn : (Lit.int .u8 n).wf = true) (hr : Recs w a [.int .i64, .int .i64] rs) (hm : rs.length ≤ maxLen) (he : Recs w b [.int .u8, .int .u8, .int .u8] es) (hm2 : es.length ≤ maxLen) (hhs : Row w .u8 d1 hs) (hmh : hs.length ≤ maxLen) (hh : ∀ x ∈ hs, (Lit.int .u8 x).wf = true) :
    Calls Tryz.prog 4 #[.int .u8 n, .slice a rs.length cap, .slice b es.length capb, .slice d1 hs.length capd1] w fun e w' => e = .returned (.bool true) ∧ Below w.heap.size w w' := by
  by_cases h : rs.length ≤ 30 ∧ es.length ≤ 200 ∧ hs.length ≤ 50
  · have hn' : 0 ≤ n ∧ n < 256 := by simp [Lit.wf, IntKind.min, IntKind.max, IntKind.bits, IntKind.signed] at hn; omega
    have hhh : Bv hs := Bv.of (fun x hx => by
      have := hh x hx
      simp [Lit.wf, IntKind.min, IntKind.max, IntKind.bits, IntKind.signed] at this
      omega)
    obtain ⟨q, rfl⟩ := Int.eq_ofNat_of_zero_le hn'.1
    exact wo q (by omega) a cap rs b capb es d1 capd1 hs w h.1 h.2.1 h.2.2 hr he hhs hhh
  · exact uq (.int .u8 n) a cap rs.length b capb es.length d1 capd1 hs.length w h
set_option maxRecDepth 100000 in
theorem lifted (os : Os) (started : os.Started) (H : Type) (enc : TypeId × Value → H) :
    ReturnsInHanded {} Tryz.checked os 4 .any (Rows.reapLeavesSpec.pre6 enc Tryz.prog Tryz.f4 Rows.reapLeavesRow.domain false) (Rows.reapLeavesSpec.post enc Tryz.prog Tryz.f4 false true false false) := by
  refine returnsInHanded_of_change (C := Tryz.checked) own started (by kernel_rfl) Tryz.func4
    (ChangeSpec.witness6 (enc := enc) (C := Tryz.checked) false ⟨#[], #[.int .u8 0, .slice none 0 0, .slice none 0 0, .slice none 0 0], []⟩ 8 (by kernel_rfl) (by kernel_rfl) (by kernel_rfl) (by kernel_rfl)) ?_
  intro W base args ds gs before hval0 hW hcnd _
  have hval : ∀ (j : Nat) t v, Tryz.f4.params[j]? = some t → args[j]? = some v → Value.okWide Tryz.prog W .any base t v := hval0
  have hW' := hW
  obtain ⟨p, q, hA0, hV, rfl, hfz, hnd⟩ := hW
  have hA : DataW.TrodAll enc Tryz.prog W 0 (fun _ => true) true Tryz.f4.params.toList args.toList ds p := hA0
  rw [Tryz.params4] at hA hval
  obtain ⟨v0, vs0, d0, ds0, p0, q0, hargs, rfl, rfl, h0, r0⟩ := trodAll_cons hA
  obtain ⟨v1, vs1, d1, ds1, p1, q1, rfl, rfl, rfl, h1, r1⟩ := trodAll_cons r0
  obtain ⟨v2, vs2, d2, ds2, p2, q2, rfl, rfl, rfl, h2, r2⟩ := trodAll_cons r1
  obtain ⟨v3, vs3, d3, ds3, p3, q3, rfl, rfl, rfl, h3, r3⟩ := trodAll_cons r2
  obtain ⟨rfl, rfl, rfl⟩ := trodAll_nil r3
  obtain rfl : args = #[v0, v1, v2, v3] := by cases args; simp_all
  obtain ⟨rfl, rfl⟩ := trodVars_none hV
  have k0 := h0
  have lt0 : ∀ x ∈ p0, x.block < W.heap.size := by obtain ⟨m, hm⟩ := k0; exact DataW.trod_lt m _ _ _ hm
  obtain ⟨a0, rfl, hd0, hp0, w0⟩ := open_int Tryz.underlying5 (hval 0 5 v0 rfl rfl) h0
  have k1 := h1
  have lt1 : ∀ x ∈ p1, x.block < W.heap.size := by obtain ⟨m, hm⟩ := k1; exact DataW.trod_lt m _ _ _ hm
  obtain ⟨a1, len1, cap1, rfl⟩ := okWide_slice Tryz.underlying42 (hval 1 42 v1 rfl rfl)
  obtain ⟨z1, hl1, ro1, m1⟩ : ∃ rs : List (List Fld), len1 = rs.length ∧ Recs W a1 [.int .i64, .int .i64] rs ∧ len1 ≤ maxLen := by
    obtain ⟨fuel, hf⟩ := h1
    rcases yX Tryz.underlying42 Tryz.underlying31 (by kernel_rfl) (by kernel_rfl) [.int .i64, .int .i64] (by decide) ⟨Tryz.underlying3, Tryz.underlying3, trivial⟩ hf with hcs | ⟨x, l, c, rs, hcs, hm, hl, hr⟩
    · simp [Value.cells] at hcs
      obtain ⟨rfl, rfl, rfl⟩ := hcs
      exact ⟨[], rfl, Recs.nil _ _ _, Nat.zero_le _⟩
    · simp [Value.cells] at hcs
      obtain ⟨rfl, rfl, rfl⟩ := hcs
      exact ⟨rs, hl.symm, hr, hm⟩
  subst hl1
  have k2 := h2
  have lt2 : ∀ x ∈ p2, x.block < W.heap.size := by obtain ⟨m, hm⟩ := k2; exact DataW.trod_lt m _ _ _ hm
  obtain ⟨a2, len2, cap2, rfl⟩ := okWide_slice Tryz.underlying43 (hval 2 43 v2 rfl rfl)
  obtain ⟨z2, hl2, ro2, m2⟩ : ∃ rs : List (List Fld), len2 = rs.length ∧ Recs W a2 [.int .u8, .int .u8, .int .u8] rs ∧ len2 ≤ maxLen := by
    obtain ⟨fuel, hf⟩ := h2
    rcases yX Tryz.underlying43 Tryz.underlying108 (by kernel_rfl) (by kernel_rfl) [.int .u8, .int .u8, .int .u8] (by decide) ⟨Tryz.underlying5, Tryz.underlying5, Tryz.underlying5, trivial⟩ hf with hcs | ⟨x, l, c, rs, hcs, hm, hl, hr⟩
    · simp [Value.cells] at hcs
      obtain ⟨rfl, rfl, rfl⟩ := hcs
      exact ⟨[], rfl, Recs.nil _ _ _, Nat.zero_le _⟩
    · simp [Value.cells] at hcs
      obtain ⟨rfl, rfl, rfl⟩ := hcs
      exact ⟨rs, hl.symm, hr, hm⟩
  subst hl2
  have k3 := h3
  have lt3 : ∀ x ∈ p3, x.block < W.heap.size := by obtain ⟨m, hm⟩ := k3; exact DataW.trod_lt m _ _ _ hm
  obtain ⟨a3, len3, cap3, rfl⟩ := okWide_slice Tryz.underlying44 (hval 3 44 v3 rfl rfl)
  obtain ⟨z3, hl3, ro3, f3, m3⟩ : ∃ zs : List Int, len3 = zs.length ∧ Row W .u8 a3 zs ∧ (∀ n ∈ zs, (Lit.int .u8 n).wf = true) ∧ len3 ≤ maxLen := by
    obtain ⟨fuel, hf⟩ := h3
    rcases open_ints Tryz.underlying44 Tryz.underlying5 (by kernel_rfl) hf with ⟨hcs, _⟩ | ⟨x, l, c, zs, hcs, _, hl, hm, hz, _, hcell, hwz⟩
    · simp [Value.cells] at hcs
      obtain ⟨rfl, rfl, rfl⟩ := hcs
      exact ⟨[], rfl, Row.nil _ _ _, (fun n h => by simp at h), Nat.zero_le _⟩
    · simp [Value.cells] at hcs
      obtain ⟨rfl, rfl, rfl⟩ := hcs
      exact Dt hl hm (by simpa using hz) hcell hwz
  subst hl3
  clear hA0 hval0
  refine (walk a0 a1 cap1 z1 a2 cap2 z2 a3 cap3 z3 W w0 ro1 m1 ro2 m2 ro3 m3 f3).mono fun e W' ⟨he, jG⟩ => ?_
  subst he
  exact ⟨_, rfl, _, _, _, [], _, [], hW', trodAll_mk1 (shut_bool Tryz.underlying4 _), (trodAll_cons_mk (Below.trod laidOut (by kernel_rfl) (of_decide_eq_true (by kernel_rfl)) k0 jG lt0) (trodAll_cons_mk (Below.trod laidOut (by kernel_rfl) (of_decide_eq_true (by kernel_rfl)) k1 jG lt1) (trodAll_cons_mk (Below.trod laidOut (by kernel_rfl) (of_decide_eq_true (by kernel_rfl)) k2 jG lt2) (trodAll_cons_mk (Below.trod laidOut (by kernel_rfl) (of_decide_eq_true (by kernel_rfl)) k3 jG lt3) trodAll_mk0)))), rfl, jG.frame _, fun h => by cases h⟩
theorem over : Rows.reapLeavesRow.holds Tryz.pinned (OpenSpec.ofChange Rows.reapLeavesSpec) :=
  OpenClaim.holds_of_wide 4 Tryz.f4 rfl rfl rfl rfl rfl rfl rfl ⟨rfl, rfl, rfl, rfl, rfl⟩ rfl rfl rfl rfl rfl (by kernel_rfl) Tryz.func4 (by kernel_rfl)
    (of_decide_eq_true (by kernel_rfl)) (by unfold Func.isWrapper; first | (rw [if_pos (by decide +kernel)]; kernel_rfl) | (rw [if_neg (by decide +kernel)]; exact ⟨rfl, rfl⟩))
    (fun os started H enc _ => lifted os started H enc)
theorem proved : Rows.ReapLeavesSaid := over
#print axioms proved
end Go.Proofs.YtjmifnljckmimaaGreat.reapLeaves
