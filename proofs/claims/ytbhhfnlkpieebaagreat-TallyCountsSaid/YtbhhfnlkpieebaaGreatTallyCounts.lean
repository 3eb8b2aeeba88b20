/- TallyCounts holds: with nothing done between there are at most N times W steps of the count; then each shadow is how often the fields of all objects name it, dead or not; and the chapter's example holds. No condition. -/
import Derived.Test.YtbhhfnlkpieebaaGreatRows
import Derived.Test.YtbhhfnlkpieebaaGreatRefSeeEtc
import Derived.WalkKit
import Derived.ProofKit
import Derived.OpenShut
import Derived.ChangeOld
import Derived.Carry
import Derived.Lib.SmallJoins
import Derived.ChangeMaps5
namespace Go.Proofs.YtbhhfnlkpieebaaGreat.tallyCounts
open Go.ChangeShapes Go.WideShapes Go.ChangeAt Go.RowKit Go.Joins
open Go.Proofs.YtbhhfnlkpieebaaGreat.Pk
set_option linter.unusedVariables false
set_option linter.unusedSimpArgs false
theorem own : ownKnob Tryz.prog.godebug = none := by kernel_rfl
theorem laidOut : laidOutB Tryz.prog = true := by kernel_rfl
theorem walk (n : Int) (a : Option Addr) (cap : Nat) (rs : List (List mh)) (b : Option Addr) (capb : Nat) (es : List (List mh)) (d : Option Addr) (capd : Nat) (ks : List Int) (w : World) (hn : (Lit.int .u8 n).wf = true) (hr : kr w a [.int .i64, .int .i64] rs) (hm : rs.length ≤ maxLen) (he : kr w b [.int .u8, .int .u8, .int .u8] es) (hm2 : es.length ≤ maxLen) (hks : Row w .u8 d ks) (hmk : ks.length ≤ maxLen) (hk : ∀ x ∈ ks, (Lit.int .u8 x).wf = true) :
    Calls Tryz.prog 5 #[.int .u8 n, .slice a rs.length cap, .slice b es.length capb, .slice d ks.length capd] w fun e w' => e = .returned (.bool true) ∧ Below w.heap.size w w' := by
  by_cases h : rs.length ≤ 30 ∧ es.length ≤ 200 ∧ ks.length ≤ 50
  · have hn' : 0 ≤ n ∧ n < 256 := by simp [Lit.wf, IntKind.min, IntKind.max, IntKind.bits, IntKind.signed] at hn; omega
    have hkk : zb ks := zb.of (fun x hx => by
      have := hk x hx
      simp [Lit.wf, IntKind.min, IntKind.max, IntKind.bits, IntKind.signed] at this
      omega)
    obtain ⟨q, rfl⟩ := Int.eq_ofNat_of_zero_le hn'.1
    exact sw q (by omega) a cap rs b capb es d capd ks w h.1 h.2.1 h.2.2 hr he hks hkk
  · exact rq (.int .u8 n) a cap rs.length b capb es.length d capd ks.length w h
set_option maxRecDepth 100000 in
theorem lifted (os : Os) (started : os.Started) (H : Type) (enc : TypeId × Value → H) :
    ReturnsInHanded {} Tryz.checked os 5 .any (Rows.tallyCountsSpec.pre6 enc Tryz.prog Tryz.f5 Rows.tallyCountsRow.domain false) (Rows.tallyCountsSpec.post enc Tryz.prog Tryz.f5 false true false false) := by
  refine returnsInHanded_of_change (C := Tryz.checked) own started (by kernel_rfl) Tryz.func5
    (ChangeSpec.witness6 (enc := enc) (C := Tryz.checked) false ⟨#[], #[.int .u8 0, .slice none 0 0, .slice none 0 0, .slice none 0 0], []⟩ 8 (by kernel_rfl) (by kernel_rfl) (by kernel_rfl) (by kernel_rfl)) ?_
  intro W base args ds gs before hval0 hW hcnd _
  have hval : ∀ (j : Nat) t v, Tryz.f5.params[j]? = some t → args[j]? = some v → Value.okWide Tryz.prog W .any base t v := hval0
  have hW' := hW
  obtain ⟨p, q, hA0, hV, rfl, hfz, hnd⟩ := hW
  have hA : DataW.TrodAll enc Tryz.prog W 0 (fun _ => true) true Tryz.f5.params.toList args.toList ds p := hA0
  rw [Tryz.params5] at hA hval
  obtain ⟨v0, vs0, d0, ds0, p0, q0, hargs, rfl, rfl, h0, r0⟩ := trodAll_cons hA
  obtain ⟨v1, vs1, d1, ds1, p1, q1, rfl, rfl, rfl, h1, r1⟩ := trodAll_cons r0
  obtain ⟨v2, vs2, d2, ds2, p2, q2, rfl, rfl, rfl, h2, r2⟩ := trodAll_cons r1
  obtain ⟨v3, vs3, d3, ds3, p3, q3, rfl, rfl, rfl, h3, r3⟩ := trodAll_cons r2
  obtain ⟨rfl, rfl, rfl⟩ := trodAll_nil r3
  obtain rfl : args = #[v0, v1, v2, v3] := by cases args; simp_all
  obtain ⟨rfl, rfl⟩ := trodVars_none hV
  have k0 := h0
  have lt0 : ∀ x ∈ p0, x.block < W.heap.size := by obtain ⟨m, hm⟩ := k0; exact DataW.trod_lt m _ _ _ hm
  obtain ⟨a0, rfl, hd0, hp0, w0⟩ := open_int Tryz.underlying5 (hval 0 5 v0 rfl rfl) h0
  have k1 := h1
  have lt1 : ∀ x ∈ p1, x.block < W.heap.size := by obtain ⟨m, hm⟩ := k1; exact DataW.trod_lt m _ _ _ hm
  obtain ⟨a1, len1, cap1, rfl⟩ := okWide_slice Tryz.underlying48 (hval 1 48 v1 rfl rfl)
  obtain ⟨z1, hl1, ro1, m1⟩ : ∃ rs : List (List mh), len1 = rs.length ∧ kr W a1 [.int .i64, .int .i64] rs ∧ len1 ≤ maxLen := by
    obtain ⟨fuel, hf⟩ := h1
    rcases xn Tryz.underlying48 Tryz.underlying31 (by kernel_rfl) (by kernel_rfl) [.int .i64, .int .i64] (by decide) ⟨Tryz.underlying3, Tryz.underlying3, trivial⟩ hf with hcs | ⟨x, l, c, rs, hcs, hm, hl, hr⟩
    · simp [Value.cells] at hcs
      obtain ⟨rfl, rfl, rfl⟩ := hcs
      exact ⟨[], rfl, kr.nil _ _ _, Nat.zero_le _⟩
    · simp [Value.cells] at hcs
      obtain ⟨rfl, rfl, rfl⟩ := hcs
      exact ⟨rs, hl.symm, hr, hm⟩
  subst hl1
  have k2 := h2
  have lt2 : ∀ x ∈ p2, x.block < W.heap.size := by obtain ⟨m, hm⟩ := k2; exact DataW.trod_lt m _ _ _ hm
  obtain ⟨a2, len2, cap2, rfl⟩ := okWide_slice Tryz.underlying49 (hval 2 49 v2 rfl rfl)
  obtain ⟨z2, hl2, ro2, m2⟩ : ∃ rs : List (List mh), len2 = rs.length ∧ kr W a2 [.int .u8, .int .u8, .int .u8] rs ∧ len2 ≤ maxLen := by
    obtain ⟨fuel, hf⟩ := h2
    rcases xn Tryz.underlying49 Tryz.underlying109 (by kernel_rfl) (by kernel_rfl) [.int .u8, .int .u8, .int .u8] (by decide) ⟨Tryz.underlying5, Tryz.underlying5, Tryz.underlying5, trivial⟩ hf with hcs | ⟨x, l, c, rs, hcs, hm, hl, hr⟩
    · simp [Value.cells] at hcs
      obtain ⟨rfl, rfl, rfl⟩ := hcs
      exact ⟨[], rfl, kr.nil _ _ _, Nat.zero_le _⟩
    · simp [Value.cells] at hcs
      obtain ⟨rfl, rfl, rfl⟩ := hcs
      exact ⟨rs, hl.symm, hr, hm⟩
  subst hl2
  have k3 := h3
  have lt3 : ∀ x ∈ p3, x.block < W.heap.size := by obtain ⟨m, hm⟩ := k3; exact DataW.trod_lt m _ _ _ hm
  obtain ⟨a3, len3, cap3, rfl⟩ := okWide_slice Tryz.underlying50 (hval 3 50 v3 rfl rfl)
  obtain ⟨z3, hl3, ro3, f3, m3⟩ : ∃ zs : List Int, len3 = zs.length ∧ Row W .u8 a3 zs ∧ (∀ n ∈ zs, (Lit.int .u8 n).wf = true) ∧ len3 ≤ maxLen := by
    obtain ⟨fuel, hf⟩ := h3
    rcases open_ints Tryz.underlying50 Tryz.underlying5 (by kernel_rfl) hf with ⟨hcs, _⟩ | ⟨x, l, c, zs, hcs, _, hl, hm, hz, _, hcell, hwz⟩
    · simp [Value.cells] at hcs
      obtain ⟨rfl, rfl, rfl⟩ := hcs
      exact ⟨[], rfl, Row.nil _ _ _, (fun n h => by simp at h), Nat.zero_le _⟩
    · simp [Value.cells] at hcs
      obtain ⟨rfl, rfl, rfl⟩ := hcs
      exact AJ hl hm (by simpa using hz) hcell hwz
  subst hl3
  clear hA0 hval0
  refine (walk a0 a1 cap1 z1 a2 cap2 z2 a3 cap3 z3 W w0 ro1 m1 ro2 m2 ro3 m3 f3).mono fun e W' ⟨he, iO⟩ => ?_
  subst he
  exact ⟨_, rfl, _, _, _, [], _, [], hW', trodAll_mk1 (shut_bool Tryz.underlying4 _), (trodAll_cons_mk (Below.trod laidOut (by kernel_rfl) (of_decide_eq_true (by kernel_rfl)) k0 iO lt0) (trodAll_cons_mk (Below.trod laidOut (by kernel_rfl) (of_decide_eq_true (by kernel_rfl)) k1 iO lt1) (trodAll_cons_mk (Below.trod laidOut (by kernel_rfl) (of_decide_eq_true (by kernel_rfl)) k2 iO lt2) (trodAll_cons_mk (Below.trod laidOut (by kernel_rfl) (of_decide_eq_true (by kernel_rfl)) k3 iO lt3) trodAll_mk0)))), rfl, iO.frame _, fun h => by cases h⟩
theorem over : Rows.tallyCountsRow.holds Tryz.pinned (OpenSpec.ofChange Rows.tallyCountsSpec) :=
  OpenClaim.holds_of_wide 5 Tryz.f5 rfl rfl rfl rfl rfl rfl rfl ⟨rfl, rfl, rfl, rfl, rfl⟩ rfl rfl rfl rfl rfl (by kernel_rfl) Tryz.func5 (by kernel_rfl)
    (of_decide_eq_true (by kernel_rfl)) (by unfold Func.isWrapper; first | (rw [if_pos (by decide +kernel)]; kernel_rfl) | (rw [if_neg (by decide +kernel)]; exact ⟨rfl, rfl⟩))
    (fun os started H enc _ => lifted os started H enc)
theorem proved : Rows.TallyCountsSaid := over
#print axioms proved
end Go.Proofs.YtbhhfnlkpieebaaGreat.tallyCounts
