/- ChainOrder holds: what is pushed is taken first, the last one ahead; what is added in its order; the other chain stays as it is; and the chapter's example holds. No condition. -/
import Derived.Test.YticlidpdmonijaaRows
import Derived.Test.YticlidpdmonijaaChainFn3
import Derived.Test.YticlidpdmonijaaBegun8
import Derived.WalkKit
import Derived.ProofKit
import Derived.OpenShut
import Derived.ChangeOld
import Derived.Carry
import Derived.Lib.SmallJoins
import Derived.ChangeMaps5
namespace Go.Proofs.Yticlidpdmonijaa.chainOrder
open Go.ChangeShapes Go.WideShapes Go.ChangeAt Go.RowKit Go.Joins
open Go.Proofs.Yticlidpdmonijaa.Pk
set_option linter.unusedVariables false
set_option linter.unusedSimpArgs false

theorem own : ownKnob Try.prog.godebug = none := by kernel_rfl
theorem laidOut : laidOutB Try.prog = true := by kernel_rfl

/-- Two chains of a ground that a call made. -/
def OrdAt (w : World) (p : Pl) (c : Cf) (k : Nat) (l : List Nat) (k' : Nat) (l' : List Nat) (wr : World) : Prop :=
  ∃ s, G wr p c s ∧ ChainAt c s.zs k l ∧ ChainAt c s.zs k' l' ∧ k < 2 ∧ k' < 2 ∧ k' ≠ k ∧ (∀ x, x ∈ l → x ∉ l') ∧ (∀ i, inG p i → w.heap.size ≤ i) ∧ Below w.heap.size w wr
theorem OrdAt.swap {w wr : World} {p : Pl} {c : Cf} {k k' : Nat} {l l' : List Nat} (h : OrdAt w p c k l k' l' wr) : OrdAt w p c k' l' k l wr := by
  obtain ⟨s, h1, h2, h3, h4, h5, h6, h7, h8, h9⟩ := h
  exact ⟨s, h1, h3, h2, h5, h4, fun e => h6 e.symm, fun x hx hy => h7 x hy hx, h8, h9⟩
theorem OrdAt.later {w wr w' : World} {p : Pl} {c : Cf} {k k' : Nat} {l l' : List Nat} (h : OrdAt w p c k l k' l' wr) (hb : Below wr.heap.size wr w') : OrdAt w p c k l k' l' w' := by
  obtain ⟨s, h1, h2, h3, h4, h5, h6, h7, h8, h9⟩ := h
  exact ⟨s, h1.later hb, h2, h3, h4, h5, h6, h7, h8, below_step h9 hb⟩
theorem OrdAt.below {w wr : World} {p : Pl} {c : Cf} {k k' : Nat} {l l' : List Nat} (h : OrdAt w p c k l k' l' wr) : Below w.heap.size w wr := by
  obtain ⟨s, h1, h2, h3, h4, h5, h6, h7, h8, h9⟩ := h
  exact h9
theorem ord_add {w wr : World} {p : Pl} {c : Cf} {k k' : Nat} {l l' : List Nat} (h : OrdAt w p c k l k' l' wr) (b : Nat) (hb : b < c.N) (h1 : b ∉ l) (h2 : b ∉ l') :
    Calls Try.prog 12 #[.pointer (some ⟨p.a, 0, none⟩), .int .i64 (k : Int), .int .i64 (b : Int)] wr fun e w' => e = .returned (.bool true) ∧ OrdAt w p c k (l ++ [b]) k' l' w' := by
  obtain ⟨s, hG, hC, hC', hk, hk', hne, hd, hP, hB⟩ := h
  refine (chainAdd_yes p c s k b l wr hG hC hk hb h1).mono ?_
  rintro e w' ⟨m, rfl, hG', _, _, hT⟩
  refine ⟨rfl, _, hG', hC.add hG.may hG.len hk hb h1, hC'.add_other hC hG.may hG.len hk hk' hne h2 (fun x hx hy => hd x hy hx), hk, hk', hne, ?_, hP, hB.trans (hT.below hP hB.size)⟩
  intro x hx
  rcases List.mem_append.1 hx with hx | hx
  · exact hd x hx
  · simp at hx; subst hx; exact h2
theorem ord_push {w wr : World} {p : Pl} {c : Cf} {k k' : Nat} {l l' : List Nat} (h : OrdAt w p c k l k' l' wr) (b : Nat) (hb : b < c.N) (h1 : b ∉ l) (h2 : b ∉ l') :
    Calls Try.prog 13 #[.pointer (some ⟨p.a, 0, none⟩), .int .i64 (k : Int), .int .i64 (b : Int)] wr fun e w' => e = .returned (.bool true) ∧ OrdAt w p c k (b :: l) k' l' w' := by
  obtain ⟨s, hG, hC, hC', hk, hk', hne, hd, hP, hB⟩ := h
  refine (chainPush_yes p c s k b l wr hG hC hk hb h1).mono ?_
  rintro e w' ⟨m, rfl, hG', _, _, hT⟩
  refine ⟨rfl, _, hG', hC.push hG.may hG.len hk hb h1, hC'.push_other hG.may hG.len hk hk' hne h2, hk, hk', hne, ?_, hP, hB.trans (hT.below hP hB.size)⟩
  intro x hx
  rcases List.mem_cons.1 hx with rfl | hx
  · exact h2
  · exact hd x hx
theorem ord_take {w wr : World} {p : Pl} {c : Cf} {k k' b : Nat} {l l' : List Nat} (h : OrdAt w p c k (b :: l) k' l' wr) :
    Calls Try.prog 14 #[.pointer (some ⟨p.a, 0, none⟩), .int .i64 (k : Int)] wr fun e w' => e = .returned (.tuple #[.int .i64 (b : Int), .bool true]) ∧ OrdAt w p c k l k' l' w' := by
  obtain ⟨s, hG, hC, hC', hk, hk', hne, hd, hP, hB⟩ := h
  refine (chainTake_yes p c s k b l wr hG hC hk).mono ?_
  rintro e w' ⟨m, rfl, hG', _, _, hT⟩
  exact ⟨rfl, _, hG', (hC.take hG.may hG.len hk).1, hC'.take_other hG.may hG.len hk hk' hne (hd b (by simp)), hk, hk', hne, fun x hx => hd x (by simp [hx]), hP, hB.trans (hT.below hP hB.size)⟩
theorem ord_take_no {w wr : World} {p : Pl} {c : Cf} {k k' : Nat} {l' : List Nat} (h : OrdAt w p c k [] k' l' wr) :
    Calls Try.prog 14 #[.pointer (some ⟨p.a, 0, none⟩), .int .i64 (k : Int)] wr fun e w' => e = .returned (.tuple #[.int .i64 0, .bool false]) ∧ OrdAt w p c k [] k' l' w' := by
  obtain ⟨s, hG, hC, hC', hk, hk', hne, hd, hP, hB⟩ := h
  refine (chainTake_no p c s (k : Int) wr hG (Or.inr ⟨k, rfl, hk, hC⟩)).mono ?_
  rintro e w' ⟨m, rfl, hG', _, _, hT⟩
  exact ⟨rfl, _, hG', hC, hC', hk, hk', hne, hd, hP, hB.trans (hT.below hP hB.size)⟩
theorem ord_len {w wr : World} {p : Pl} {c : Cf} {k k' : Nat} {l l' : List Nat} (h : OrdAt w p c k l k' l' wr) (n : Nat) (hn : l.length = n) :
    Calls Try.prog 15 #[.pointer (some ⟨p.a, 0, none⟩), .int .i64 (k : Int)] wr fun e w' => e = .returned (.int .i64 (n : Int)) ∧ OrdAt w p c k l k' l' w' := by
  subst hn
  obtain ⟨s, hG, hC, hC', hk, hk', hne, hd, hP, hB⟩ := h
  refine (ch_len p c s k l wr hG hC hk).mono ?_
  rintro e w' ⟨m, rfl, hG', _, _, hT⟩
  exact ⟨rfl, _, hG', hC, hC', hk, hk', hne, hd, hP, hB.trans (hT.below hP hB.size)⟩
theorem ord_list {w wr : World} {p : Pl} {c : Cf} {k k' : Nat} {l l' : List Nat} (h : OrdAt w p c k l k' l' wr) (n : Nat) (hn : l.length = n) :
    Calls Try.prog 16 #[.pointer (some ⟨p.a, 0, none⟩), .int .i64 (k : Int)] wr fun e w' => ∃ a cap, e = .returned (.slice a n cap) ∧ OrdAt w p c k l k' l' w' := by
  subst hn
  have h0 := h
  obtain ⟨s, hG, hC, hC', hk, hk', hne, hd, hP, hB⟩ := h
  refine (chainList_yes p c s k l wr hG hC hk).mono ?_
  rintro e w' ⟨a, cap, rfl, _, _, hb⟩
  exact ⟨a, cap, rfl, h0.later hb⟩

def cfn (n : Nat) : Cf := ⟨n, 16, 1, 1⟩
theorem cfn_may {n : Nat} (h0 : 1 ≤ n) (h1 : n ≤ 100) : (cfn n).May := by constructor <;> simp [cfn] <;> omega
theorem newn (n : Nat) (h0 : 1 ≤ n) (h1 : n ≤ 100) (w : World) : Calls Try.prog 6 #[.agg #[.int .i64 (n : Int), .int .i64 16, .int .i64 1, .int .i64 1]] w (NewG 55 84 66 w (cfn n)) := gnew_yes (cfn n) w (cfn_may h0 h1)

set_option maxRecDepth 100000 in
set_option maxHeartbeats 2000000 in
theorem walk_k (n q : Nat) (k : Bool) (own oth : Nat) (w : World) (hk : (k = false ∧ own = 0 ∧ oth = 1) ∨ (k = true ∧ own = 1 ∧ oth = 0)) (h0 : 1 ≤ n) (h1 : n ≤ 100) (hq : q < 256) :
    Calls Try.prog 4 #[.int .u8 (n : Int), .int .u8 (q : Int), .bool k] w fun e w' => e = .returned (.bool true) ∧ Below w.heap.size w w' := by
  obtain ⟨p, hp⟩ : ∃ p : Nat, p = q % n := ⟨_, rfl⟩
  have hpn : p < n := by rw [hp]; exact Nat.mod_lt _ (by omega)
  have hrem : Int.tmod (q : Int) (n : Int) = (p : Int) := by rw [hp]; rw [Int.tmod_eq_emod_of_nonneg (by omega)]; omega
  have b0 : decide ((n : Int) < 1) = false := by simp; omega
  have b1 : decide ((100 : Int) < (n : Int)) = false := by simp; omega
  have HS : Hid (own < 2 ∧ oth < 2 ∧ oth ≠ own) := Lib.hid (by omega)
  clear hp
  rcases hk with ⟨rfl, rfl, rfl⟩ | ⟨rfl, rfl, rfl⟩
  all_goals
    go_enter Try.func4, Try.ntmps4
    go_wp2_with fail
    refine (newn n h0 h1 _).mono ?_
    rintro e w1 ⟨g, rfl, hG, hp, hb⟩
    have HO : Hid (OrdAt w g (cfn n) _ [] _ [] w1) := Lib.hid ⟨_, hG, ChainAt.zero _ _ _, ChainAt.zero _ _ _, HS.out.1, HS.out.2.1, HS.out.2.2, fun x hx => absurd hx (by simp), fun i hi => hp i (Or.inr hi), hb⟩
    clear hG hp hb
    go_wp2_with fail
    go_loopw [12] (fun i wr => ∃ j : Nat, p ≤ j ∧ j ≤ n ∧ i = .int .i64 (j : Int) ∧ OrdAt w g (cfn n) _ (List.range' p (j - p)) _ [] wr) (fun i _ => n - (intOf i).toNat)
    case atStart => exact ⟨p, Nat.le_refl _, by omega, rfl, by rw [Nat.sub_self]; exact HO.out⟩
    case round =>
      obtain ⟨m, hm0, hm, rfl, hO⟩ := hrel
      have HO1 := Lib.hid hO
      clear hO
      by_cases hlt : m < n
      · have E : Hid (List.range' p (m - p) ++ [m] = List.range' p (m + 1 - p)) := Lib.hid (by rw [show m + 1 - p = (m - p) + 1 by omega, List.range'_1_concat, show p + (m - p) = m by omega])
        go_wp2_with fail
        refine (ord_add HO1.out m hlt (by rw [List.mem_range'_1]; omega) (by simp)).mono ?_
        rintro e w2 ⟨rfl, hO⟩
        rw [E.out] at hO
        have HO2 := Lib.hid hO
        clear hO
        go_wp2_with fail
        go_roundw
        case rel => exact ⟨m + 1, by omega, by omega, by go_num, HO2.out⟩
        case measure => simp [intOf]; omega
      · have hm2 : m = n := by omega
        have HO2 : Hid (OrdAt w g (cfn n) _ (List.range' p (n - p)) _ [] wr) := Lib.hid (hm2 ▸ HO1.out)
        clear HO1 hm2
        go_wp2_with fail
        go_loopw [13] (fun i wr => ∃ j : Nat, j ≤ p ∧ i = .int .i64 ((j : Int) - 1) ∧ OrdAt w g (cfn n) _ (List.range' j (n - j)) _ [] wr) (fun i _ => (intOf i + 1).toNat)
        case atStart => exact ⟨p, by omega, by go_num, HO2.out⟩
        case round =>
          obtain ⟨j, hj, rfl, hO⟩ := hrel
          have HO3 := Lib.hid hO
          clear hO
          by_cases hj0 : 0 < j
          · obtain ⟨i, rfl⟩ : ∃ i : Nat, j = i + 1 := ⟨j - 1, by omega⟩
            rw [show (((i + 1 : Nat) : Int) - 1) = (i : Int) by omega]
            go_wp2_with fail
            refine (ord_push HO3.out i (show i < n by omega) (by rw [List.mem_range'_1]; omega) (by simp)).mono ?_
            rintro e w4 ⟨rfl, hO⟩
            rw [show i :: List.range' (i + 1) (n - (i + 1)) = List.range' i (n - i) by rw [show n - i = (n - (i + 1)) + 1 by omega, List.range'_succ]] at hO
            have HO4 := Lib.hid hO
            clear hO
            go_wp2_with fail
            go_roundw
            case rel => exact ⟨i, by omega, by go_num, HO4.out⟩
            case measure => first | (simp [intOf]; done) | (simp [intOf]; omega)
          · obtain rfl : j = 0 := by omega
            rw [show (((0 : Nat) : Int) - 1) = -1 by omega]
            go_wp2_with fail
            go_loopw [14] (fun i wr => ∃ j : Nat, j ≤ n ∧ i = .int .i64 (j : Int) ∧ OrdAt w g (cfn n) _ (List.range' j (n - j)) _ (List.range' 0 j) wr) (fun i _ => n - (intOf i).toNat)
            case atStart => exact ⟨0, by omega, rfl, HO3.out⟩
            case round =>
              obtain ⟨j, hj, rfl, hO⟩ := hrel
              have HO5 := Lib.hid hO
              clear hO
              by_cases hjn : j < n
              · have hdj : decide ((j : Int) < (n : Int)) = true := by simp; omega
                have HO5 : Hid (OrdAt w g (cfn n) _ (j :: List.range' (j + 1) (n - (j + 1))) _ (List.range' 0 j) wr) := Lib.hid (by
                  have := HO5.out
                  rwa [show n - j = (n - (j + 1)) + 1 by omega, List.range'_succ] at this)
                go_wp2_with fail
                refine (ord_take HO5.out).mono ?_
                rintro e w6 ⟨rfl, hO⟩
                have HO6 := Lib.hid hO.swap
                clear hO
                go_wp2_with fail
                refine (ord_add HO6.out j hjn (by rw [List.mem_range'_1]; omega) (by rw [List.mem_range'_1]; omega)).mono ?_
                rintro e w7 ⟨rfl, hO⟩
                rw [show List.range' 0 j ++ [j] = List.range' 0 (j + 1) by rw [List.range'_1_concat]; simp] at hO
                have HO7 := Lib.hid hO.swap
                clear hO
                go_wp2_with fail
                refine (ord_len HO7.out (n - (j + 1)) (by simp)).mono ?_
                rintro e w8 ⟨rfl, hO⟩
                have HO8 := Lib.hid hO.swap
                clear hO
                go_wp2_with fail
                refine (ord_len HO8.out (j + 1) (by simp)).mono ?_
                rintro e w9 ⟨rfl, hO⟩
                have HO9 := Lib.hid hO.swap
                clear hO
                have hsum : ((n - (j + 1) : Nat) : Int) + ((j + 1 : Nat) : Int) = (n : Int) := by omega
                have hwr : IntKind.i64.wrap (n : Int) = (n : Int) := IntWalk.i64_in _ (by omega)
                go_wp2_with fail
                go_roundw
                case rel => exact ⟨j + 1, by omega, by go_num, HO9.out⟩
                case measure => simp [intOf]; omega
              · have hje : j = n := by omega
                have HO6 : Hid (OrdAt w g (cfn n) _ [] _ (List.range' 0 n) wr) := Lib.hid (by
                  have := HO5.out
                  rwa [hje, Nat.sub_self] at this)
                clear HO5 hje
                go_wp2_with fail
                refine (ord_take_no HO6.out).mono ?_
                rintro e w7 ⟨rfl, hO⟩
                have HO7 := Lib.hid hO.swap
                clear hO
                go_wp2_with fail
                refine (ord_list HO7.out n (by simp)).mono ?_
                rintro e w8 ⟨a, cap, rfl, hO⟩
                have HB8 := Lib.hid hO.below
                clear hO
                go_wp2_with fail
                refine (begun8_any chainFns _).mono ?_
                rintro e w9 ⟨rfl, hb⟩
                have HB9 := Lib.hid (below_step HB8.out hb)
                clear hb
                go_wp2_with fail
                go_ret
                exact ⟨rfl, HB9.out⟩

theorem walk_out (n q : Int) (k : Bool) (w : World) (h : n < 1 ∨ 100 < n) :
    Calls Try.prog 4 #[.int .u8 n, .int .u8 q, .bool k] w fun e w' => e = .returned (.bool true) ∧ Below w.heap.size w w' := by
  by_cases h0 : n < 1
  · clear h
    go_enter Try.func4, Try.ntmps4
    go_wp2_with fail
    refine (begun8_any chainFns _).mono ?_
    rintro e w9 ⟨rfl, hb⟩
    go_wp2_with fail
    go_ret
    exact ⟨rfl, hb⟩
  · have h1 : 100 < n := by omega
    clear h
    go_enter Try.func4, Try.ntmps4
    go_wp2_with fail
    refine (begun8_any chainFns _).mono ?_
    rintro e w9 ⟨rfl, hb⟩
    go_wp2_with fail
    go_ret
    exact ⟨rfl, hb⟩

theorem walk (n q : Int) (k : Bool) (w : World) (hn : (Lit.int .u8 n).wf = true) (hq : (Lit.int .u8 q).wf = true) :
    Calls Try.prog 4 #[.int .u8 n, .int .u8 q, .bool k] w fun e w' => e = .returned (.bool true) ∧ Below w.heap.size w w' := by
  have hn' : 0 ≤ n ∧ n < 256 := by simp [Lit.wf, IntKind.min, IntKind.max, IntKind.bits, IntKind.signed] at hn; omega
  have hq' : 0 ≤ q ∧ q < 256 := by simp [Lit.wf, IntKind.min, IntKind.max, IntKind.bits, IntKind.signed] at hq; omega
  by_cases h : n < 1 ∨ 100 < n
  · exact walk_out n q k w h
  · obtain ⟨m, rfl⟩ := Int.eq_ofNat_of_zero_le hn'.1
    obtain ⟨x, rfl⟩ := Int.eq_ofNat_of_zero_le hq'.1
    cases k
    · exact walk_k m x false 0 1 w (Or.inl ⟨rfl, rfl, rfl⟩) (by omega) (by omega) (by omega)
    · exact walk_k m x true 1 0 w (Or.inr ⟨rfl, rfl, rfl⟩) (by omega) (by omega) (by omega)

/-! ### The row -/
set_option maxRecDepth 100000 in
theorem lifted (os : Os) (started : os.Started) (H : Type) (enc : TypeId × Value → H) :
    ReturnsInHanded {} Try.checked os 4 .any (Rows.chainOrderSpec.pre6 enc Try.prog Try.f4 Rows.chainOrderRow.domain false) (Rows.chainOrderSpec.post enc Try.prog Try.f4 false true false false) := by
  refine returnsInHanded_of_change (C := Try.checked) own started (by kernel_rfl) Try.func4
    (ChangeSpec.witness6 (enc := enc) (C := Try.checked) false ⟨#[], #[.int .u8 0, .int .u8 0, .bool false], []⟩ 8 (by kernel_rfl) (by kernel_rfl) (by kernel_rfl) (by kernel_rfl)) ?_
  intro W base args ds gs before hval0 hW hcnd _
  have hval : ∀ (j : Nat) t v, Try.f4.params[j]? = some t → args[j]? = some v → Value.okWide Try.prog W .any base t v := hval0
  have hW' := hW
  obtain ⟨p, q, hA0, hV, rfl, hfz, hnd⟩ := hW
  have hA : DataW.TrodAll enc Try.prog W 0 (fun _ => true) true Try.f4.params.toList args.toList ds p := hA0
  rw [Try.params4] at hA hval
  obtain ⟨v0, vs0, d0, ds0, p0, q0, hargs, rfl, rfl, h0, r0⟩ := trodAll_cons hA
  obtain ⟨v1, vs1, d1, ds1, p1, q1, rfl, rfl, rfl, h1, r1⟩ := trodAll_cons r0
  obtain ⟨v2, vs2, d2, ds2, p2, q2, rfl, rfl, rfl, h2, r2⟩ := trodAll_cons r1
  obtain ⟨rfl, rfl, rfl⟩ := trodAll_nil r2
  obtain rfl : args = #[v0, v1, v2] := by cases args; simp_all
  obtain ⟨rfl, rfl⟩ := trodVars_none hV
  have k0 := h0
  have lt0 : ∀ x ∈ p0, x.block < W.heap.size := by obtain ⟨m, hm⟩ := k0; exact DataW.trod_lt m _ _ _ hm
  obtain ⟨a0, rfl, hd0, hp0, w0⟩ := open_int Try.underlying5 (hval 0 5 v0 rfl rfl) h0
  have k1 := h1
  have lt1 : ∀ x ∈ p1, x.block < W.heap.size := by obtain ⟨m, hm⟩ := k1; exact DataW.trod_lt m _ _ _ hm
  obtain ⟨a1, rfl, hd1, hp1, w1⟩ := open_int Try.underlying5 (hval 1 5 v1 rfl rfl) h1
  have k2 := h2
  have lt2 : ∀ x ∈ p2, x.block < W.heap.size := by obtain ⟨m, hm⟩ := k2; exact DataW.trod_lt m _ _ _ hm
  obtain ⟨a2, rfl, hd2, hp2⟩ := open_bool Try.underlying4 (hval 2 4 v2 rfl rfl) h2
  clear hA0 hval0
  refine (walk a0 a1 a2 W w0 w1).mono fun e W' ⟨he, bel⟩ => ?_
  subst he
  exact ⟨_, rfl, _, _, _, [], _, [], hW', trodAll_mk1 (shut_bool Try.underlying4 _), (trodAll_cons_mk (Below.trod laidOut (by kernel_rfl) (of_decide_eq_true (by kernel_rfl)) k0 bel lt0) (trodAll_cons_mk (Below.trod laidOut (by kernel_rfl) (of_decide_eq_true (by kernel_rfl)) k1 bel lt1) (trodAll_cons_mk (Below.trod laidOut (by kernel_rfl) (of_decide_eq_true (by kernel_rfl)) k2 bel lt2) trodAll_mk0))), rfl, bel.frame _, fun h => by cases h⟩

theorem over : Rows.chainOrderRow.holds Try.pinned (OpenSpec.ofChange Rows.chainOrderSpec) :=
  OpenClaim.holds_of_wide 4 Try.f4 rfl rfl rfl rfl rfl rfl rfl ⟨rfl, rfl, rfl, rfl, rfl⟩ rfl rfl rfl rfl rfl (by kernel_rfl) Try.func4 (by kernel_rfl)
    (of_decide_eq_true (by kernel_rfl)) (by unfold Func.isWrapper; first | (rw [if_pos (by decide +kernel)]; kernel_rfl) | (rw [if_neg (by decide +kernel)]; exact ⟨rfl, rfl⟩))
    (fun os started H enc _ => lifted os started H enc)

theorem proved : Rows.ChainOrderSaid := over
#print axioms proved
end Go.Proofs.Yticlidpdmonijaa.chainOrder
