/-
  Layer 11: the bundles of package obj.
-/
import Derived.Test.YtgmbamehmecnlaaObjFn4
import Derived.Test.YtgmbamehmecnlaaObjLaw
namespace Go.Proofs.Ytgmbamehmecnlaa.Pk
open Go.RowKit
set_option linter.unusedVariables false
set_option linter.unusedSimpArgs false
set_option maxRecDepth 100000

theorem fieldA_some {c : Cf} {o : Ob} {i a : Nat} (h : fieldA c o i = some a) : ∃ q, fieldP c o i = some q ∧ a = adr c q.1 q.2 := by
  unfold fieldA at h
  cases hp : fieldP c o i with
  | none => rw [hp] at h; cases h
  | some q => rw [hp] at h; simp at h; exact ⟨q, rfl, h.symm⟩
theorem fieldA_isSome {c : Cf} {o : Ob} {i : Nat} : (fieldA c o i).isSome = (fieldP c o i).isSome := by unfold fieldA; rw [Option.isSome_map]
theorem acts_ptr {c : Cf} {zs : List Int} {pool : List Nat} {os : List Ob} {r : Int} (i : Int) (hz : Wz c zs) (H : HeapAt c zs pool os) (hr : In64 r) :
    Acts c 37 [.int .i64 r, .int .i64 i] zs 12 zs (.tuple #[.int .i64 (ptrV c zs os r i), .int .i64 (ptrE c os r i)]) := by
  cases h : obAt os r with
  | none =>
    rw [show ptrV c zs os r i = 0 by unfold ptrV; rw [h], show ptrE c os r i = 8 by unfold ptrE; rw [h]]
    exact ⟨askN (wordA c (prev r) 0), by have := askN_le (wordA c (prev r) 0); omega, fun p m w hG => ob_Ptr_err i 8 (by decide) (ob_find_ref hG H hr h 0 i)⟩
  | some o =>
    obtain ⟨ho, rfl⟩ := obAt_some h
    cases hb : bel i o.np with
    | false =>
      rw [show ptrV c zs os ((o.h : Int) + 1) i = 0 by unfold ptrV; rw [h]; simp [hb], show ptrE c os ((o.h : Int) + 1) i = 7 by unfold ptrE; rw [h]; simp [hb]]
      exact ⟨3, by omega, fun p m w hG => ob_Ptr_err i 7 (by decide) (ob_find0_out hG H ho i hb)⟩
    | true =>
      obtain ⟨k, rfl, hk⟩ := bel_nat hb
      have hv : ptrV c zs os ((o.h : Int) + 1) (k : Int) = fldV c zs o k := by unfold ptrV; rw [h]; simp [hb]
      have hif : k < o.f := by unfold Ob.f; omega
      cases hq : fieldP c o k with
      | none =>
        rw [hv, fldV_none hq, show ptrE c os ((o.h : Int) + 1) (k : Int) = 7 by unfold ptrE; rw [h]; simp [hb, fieldA_isSome, hq]]
        exact ⟨3 + plD c o, by have := plD_le c o; omega, fun p m w hG => ob_Ptr_err (k : Int) 7 (by decide) (by have h2 := ob_find0 hG H ho k hk; rw [hq] at h2; exact h2)⟩
      | some q =>
        rw [hv, fldV_some hq, show ptrE c os ((o.h : Int) + 1) (k : Int) = 0 by unfold ptrE; rw [h]; simp [hb, fieldA_isSome, hq]]
        have hwf := hz.wf (adr c q.1 q.2)
        exact ⟨3 + plD c o + 1, by have := plD_le c o; omega, fun p m w hG => ob_Ptr_ok (k : Int) q.1 q.2 _ (H.lt ho (fieldP_mem hq)) (fieldP_off hz.may hif hq).2.1 rfl hwf.1 hwf.2 (by have h2 := ob_find0 hG H ho k hk; rw [hq] at h2; exact h2)⟩
theorem acts_setptr_no {c : Cf} {zs : List Int} {pool : List Nat} {os : List Ob} {r : Int} (i x : Int) (hz : Wz c zs) (H : HeapAt c zs pool os) (hr : In64 r) (he : ptrE c os r i ≠ 0) :
    Acts c 23 [.int .i64 r, .int .i64 i, .int .i64 x] zs 12 zs (.int .i64 (ptrE c os r i)) := by
  cases h : obAt os r with
  | none =>
    rw [show ptrE c os r i = 8 by unfold ptrE; rw [h]]
    exact ⟨askN (wordA c (prev r) 0), by have := askN_le (wordA c (prev r) 0); omega, fun p m w hG => ob_SetPtr_err i x 8 (by decide) (ob_find_ref hG H hr h 0 i)⟩
  | some o =>
    obtain ⟨ho, rfl⟩ := obAt_some h
    cases hb : bel i o.np with
    | false =>
      rw [show ptrE c os ((o.h : Int) + 1) i = 7 by unfold ptrE; rw [h]; simp [hb]]
      exact ⟨3, by omega, fun p m w hG => ob_SetPtr_err i x 7 (by decide) (ob_find0_out hG H ho i hb)⟩
    | true =>
      obtain ⟨k, rfl, hk⟩ := bel_nat hb
      cases hq : fieldP c o k with
      | none =>
        rw [show ptrE c os ((o.h : Int) + 1) (k : Int) = 7 by unfold ptrE; rw [h]; simp [hb, fieldA_isSome, hq]]
        exact ⟨3 + plD c o, by have := plD_le c o; omega, fun p m w hG => ob_SetPtr_err (k : Int) x 7 (by decide) (by have h2 := ob_find0 hG H ho k hk; rw [hq] at h2; exact h2)⟩
      | some q => exact absurd (by unfold ptrE; rw [h]; simp [hb, fieldA_isSome, hq]) he
theorem acts_data {c : Cf} {zs : List Int} {pool : List Nat} {os : List Ob} {r : Int} (i : Int) (hz : Wz c zs) (H : HeapAt c zs pool os) (hr : In64 r) :
    Acts c 38 [.int .i64 r, .int .i64 i] zs 12 zs (.tuple #[.int .u32 (dataV c zs os r i), .int .i64 (dataE c os r i)]) := by
  cases h : obAt os r with
  | none =>
    rw [show dataV c zs os r i = 0 by unfold dataV; rw [h], show dataE c os r i = 8 by unfold dataE; rw [h]]
    exact ⟨askN (wordA c (prev r) 0), by have := askN_le (wordA c (prev r) 0); omega, fun p m w hG => ob_Data_err i 8 (by decide) (ob_find_ref hG H hr h 1 i)⟩
  | some o =>
    obtain ⟨ho, rfl⟩ := obAt_some h
    cases hb : bel i o.nd with
    | false =>
      rw [show dataV c zs os ((o.h : Int) + 1) i = 0 by unfold dataV; rw [h]; simp [hb], show dataE c os ((o.h : Int) + 1) i = 7 by unfold dataE; rw [h]; simp [hb]]
      exact ⟨3, by omega, fun p m w hG => ob_Data_err i 7 (by decide) (ob_find1_out hG H ho i hb)⟩
    | true =>
      obtain ⟨k, rfl, hk⟩ := bel_nat hb
      have hv : dataV c zs os ((o.h : Int) + 1) (k : Int) = fldV c zs o (o.np + k) := by unfold dataV; rw [h]; simp [hb]
      have hif : (o.np + k) < o.f := by unfold Ob.f; omega
      cases hq : fieldP c o (o.np + k) with
      | none =>
        rw [hv, fldV_none hq, show dataE c os ((o.h : Int) + 1) (k : Int) = 7 by unfold dataE; rw [h]; simp [hb, fieldA_isSome, hq]]
        exact ⟨3 + plD c o, by have := plD_le c o; omega, fun p m w hG => ob_Data_err (k : Int) 7 (by decide) (by have h2 := ob_find1 hG H ho k hk; rw [hq] at h2; exact h2)⟩
      | some q =>
        rw [hv, fldV_some hq, show dataE c os ((o.h : Int) + 1) (k : Int) = 0 by unfold dataE; rw [h]; simp [hb, fieldA_isSome, hq]]
        have hwf := hz.wf (adr c q.1 q.2)
        exact ⟨3 + plD c o + 1, by have := plD_le c o; omega, fun p m w hG => ob_Data_ok (k : Int) q.1 q.2 _ (H.lt ho (fieldP_mem hq)) (fieldP_off hz.may hif hq).2.1 rfl hwf.1 hwf.2 (by have h2 := ob_find1 hG H ho k hk; rw [hq] at h2; exact h2)⟩
theorem acts_setdata_no {c : Cf} {zs : List Int} {pool : List Nat} {os : List Ob} {r : Int} (i x : Int) (hz : Wz c zs) (H : HeapAt c zs pool os) (hr : In64 r) (he : dataE c os r i ≠ 0) :
    Acts c 24 [.int .i64 r, .int .i64 i, .int .u32 x] zs 12 zs (.int .i64 (dataE c os r i)) := by
  cases h : obAt os r with
  | none =>
    rw [show dataE c os r i = 8 by unfold dataE; rw [h]]
    exact ⟨askN (wordA c (prev r) 0), by have := askN_le (wordA c (prev r) 0); omega, fun p m w hG => ob_SetData_err i x 8 (by decide) (ob_find_ref hG H hr h 1 i)⟩
  | some o =>
    obtain ⟨ho, rfl⟩ := obAt_some h
    cases hb : bel i o.nd with
    | false =>
      rw [show dataE c os ((o.h : Int) + 1) i = 7 by unfold dataE; rw [h]; simp [hb]]
      exact ⟨3, by omega, fun p m w hG => ob_SetData_err i x 7 (by decide) (ob_find1_out hG H ho i hb)⟩
    | true =>
      obtain ⟨k, rfl, hk⟩ := bel_nat hb
      cases hq : fieldP c o (o.np + k) with
      | none =>
        rw [show dataE c os ((o.h : Int) + 1) (k : Int) = 7 by unfold dataE; rw [h]; simp [hb, fieldA_isSome, hq]]
        exact ⟨3 + plD c o, by have := plD_le c o; omega, fun p m w hG => ob_SetData_err (k : Int) x 7 (by decide) (by have h2 := ob_find1 hG H ho k hk; rw [hq] at h2; exact h2)⟩
      | some q => exact absurd (by unfold dataE; rw [h]; simp [hb, fieldA_isSome, hq]) he
theorem objFns : ObjFns where
  make_size := fun c zs a b hz he => ⟨0, 0, Nat.le_refl _, fun p m w hG => ob_make_size a b hG he⟩
  make_full := fun c zs pool os a b hz H he hl => ⟨1, 1, Nat.le_refl _, fun p m w hG => ob_make_full a b pool hG H.pl.ch he hl⟩
  make_yes := fun c zs h ls pool os a b hz H he hb => ⟨madeM c ls pool h, madeZ c h ls a b zs, ⟨madeM c ls pool h, Nat.le_refl _, fun p m w hG => by have e := ob_make_yes (s := ⟨zs, m⟩) h a b ls pool os hG H he hb; exact e⟩, made_ob hz.may hz.len H he hb⟩
  is_ := fun c zs pool os r hz H hr => by
    rw [← isB H hz.may hr]
    exact ⟨1 * askN (wordA c (prev r) 0), by have := askN_le (wordA c (prev r) 0); omega, fun p m w hG => ob_is hG r⟩
  lens_yes := fun c zs pool os r o hz H h => by
    obtain ⟨ho, rfl⟩ := obAt_some h
    exact ⟨3, by omega, fun p m w hG => ob_lens_yes hG H ho⟩
  lens_no := fun c zs pool os r hz H hr h => ⟨askN (wordA c (prev r) 0), by have := askN_le (wordA c (prev r) 0); omega, fun p m w hG => ob_lens_no hG H hr h⟩
  ptr := fun c zs pool os r i hz H hr => acts_ptr i hz H hr
  data := fun c zs pool os r i hz H hr => acts_data i hz H hr
  setptr_yes := fun c zs pool os o i a x hz H ho hi ha h0 h1 => by
    obtain ⟨q, hq, rfl⟩ := fieldA_some ha
    have hif : i < o.f := by unfold Ob.f; omega
    exact ⟨3 + plD c o + 1, by have := plD_le c o; omega, fun p m w hG => ob_SetPtr_ok (i : Int) q.1 q.2 x hz.may (H.lt ho (fieldP_mem hq)) (fieldP_off hz.may hif hq).2.1 h0 h1 (by have h2 := ob_find0 hG H ho i hi; rw [hq] at h2; exact h2)⟩
  setptr_no := fun c zs pool os r i x hz H hr he => acts_setptr_no i x hz H hr he
  setptr_arg := fun c zs pool os r i x hz H hr he hx => by
    unfold ptrE at he
    cases h : obAt os r with
    | none => rw [h] at he; simp at he
    | some o =>
      obtain ⟨ho, rfl⟩ := obAt_some h
      rw [h] at he
      cases hb : bel i o.np with
      | false => simp [hb] at he
      | true =>
        obtain ⟨k, rfl, hk⟩ := bel_nat hb
        cases hq : fieldP c o k with
        | none => simp [hb, fieldA_isSome, hq] at he
        | some q => exact ⟨3 + plD c o, by have := plD_le c o; omega, fun p m w hG => ob_SetPtr_arg (k : Int) q.1 q.2 x hx (by have h2 := ob_find0 hG H ho k hk; rw [hq] at h2; exact h2)⟩
  setdata_yes := fun c zs pool os o i a x hz H ho hi ha h0 h1 => by
    obtain ⟨q, hq, rfl⟩ := fieldA_some ha
    have hif : o.np + i < o.f := by unfold Ob.f; omega
    exact ⟨3 + plD c o + 1, by have := plD_le c o; omega, fun p m w hG => ob_SetData_ok (i : Int) q.1 q.2 x (H.lt ho (fieldP_mem hq)) (fieldP_off hz.may hif hq).2.1 h0 h1 (by have h2 := ob_find1 hG H ho i hi; rw [hq] at h2; exact h2)⟩
  setdata_no := fun c zs pool os r i x hz H hr he => acts_setdata_no i x hz H hr he
  blocks := fun c zs pool os r hz H hr => by
    cases h : obAt os r with
    | none =>
      rw [show blkN os r = 0 by unfold blkN; rw [h]]
      exact ⟨askN (wordA c (prev r) 0), by have := askN_le (wordA c (prev r) 0); omega, fun p m w hG => ob_blocks_no hG H hr h⟩
    | some o =>
      rw [show blkN os r = 1 + (o.lv.length : Int) by unfold blkN; rw [h]]
      obtain ⟨ho, rfl⟩ := obAt_some h
      exact ⟨3, by omega, fun p m w hG => ob_blocks_yes hG H ho⟩
  shed_yes := fun c zs pool os o j b hz H ho hj => by
    obtain ⟨h1, h2⟩ := H.shed hz.may hz.len ho hj
    exact ⟨7 + pushD pool, _, ⟨7 + pushD pool, Nat.le_refl _, fun p m w hG => ob_shed_yes j b hG H ho hj⟩, h1, h2⟩
  shed_no := fun c zs pool os r j hz H hr hn => by
    by_cases h0 : j < 0
    · exact ⟨0, 0, Nat.le_refl _, fun p m w hG => ob_shed_none (s' := ⟨zs, m⟩) j 0 (.inl h0) (by omega) (by omega) hG (fun h => absurd h (by omega)) (fun _ => rfl)⟩
    · cases h : obAt os r with
      | none => exact ⟨askN (wordA c (prev r) 0), askN (wordA c (prev r) 0), Nat.le_refl _, fun p m w hG => ob_shed_none j 0 (.inr (by omega)) (by omega) (by omega) hG (fun _ => ob_blocks_no hG H hr h) (fun h => absurd h h0)⟩
      | some o =>
        obtain ⟨ho, rfl⟩ := obAt_some h
        have hsm := lv_small (s := ⟨zs, 0⟩) (H.obs o ho) hz.may
        by_cases hj : j < (o.lv.length : Int)
        · obtain ⟨k, rfl⟩ := Int.eq_ofNat_of_zero_le (show 0 ≤ j by omega)
          have hk : k < o.lv.length := by omega
          have hg : o.lv[k]? = some o.lv[k] := List.getElem?_eq_getElem hk
          have hz0 : o.lv[k] = 0 := by
            cases hv : o.lv[k] with
            | zero => rfl
            | succ b => exact absurd (by rw [hg, hv]) (hn _ h k b rfl)
          rw [hz0] at hg
          exact ⟨4, 4, Nat.le_refl _, fun p m w hG => ob_shed_gone k hG H ho hg⟩
        · exact ⟨3, 3, Nat.le_refl _, fun p m w hG => ob_shed_none j (1 + (o.lv.length : Int)) (.inr (by omega)) (by omega) (by omega) hG (fun _ => ob_blocks_yes hG H ho) (fun h => absurd h h0)⟩
  end_yes := fun c zs pool os o hz H ho hl => by
    obtain ⟨h1, h2⟩ := H.ended hz.may hz.len ho hl
    exact ⟨3 + pushD pool, _, ⟨3 + pushD pool, Nat.le_refl _, fun p m w hG => ob_end_yes hG H ho⟩, h1, h2⟩
  end_no := fun c zs pool os r hz H hr h => ⟨1 * askN (wordA c (prev r) 0), 1 * askN (wordA c (prev r) 0), Nat.le_refl _, fun p m w hG => ob_end_no hG H hr h⟩
  see_yes := fun c zs pool os o hz H ho p m w hG => ob_see_yes hG H ho
  see_no := fun c zs pool os r hz H hr h p m w hG => ob_see_no hG H hr h

/-! ### Of a nil ground -/
end Go.Proofs.Ytgmbamehmecnlaa.Pk
