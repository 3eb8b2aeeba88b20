/-
  A struct by value, of whatever number of fields of one cell: what its cells hold. No program in sight.
-/
import Derived.Test.YtlgkgijgnmancaaDoorRecs
import Derived.Lib.SmallJoins
namespace Go.Proofs.YtlgkgijgnmancaaDoor.Pk
open Go.RowKit Go.ChangeShapes Go.WideShapes Go.Deep
set_option linter.unusedVariables false
set_option linter.unusedSimpArgs false

section
variable {H : Type} {enc : TypeId × Value → H} {P : Program} {W : World}

theorem open_flds {t : TypeId} {fs : Array Field} (hs : P.underlying t = some (.struct fs)) (hone : oneCellFields P fs = true) (hC : P.cellsOf t = fs.size) (ks : List Kd) (hall : AllKd P fs.toList ks)
    {r : Reach} {b0 : Nat} {v : Value} {d : DataW H} {p : List MemPlace} (hv : Value.okWide P W r b0 t v) (h : DataW.Trod enc P W 0 (fun _ => true) true t v d p) :
    ∃ rs : List Fld, rs.map Fld.kd = ks ∧ v = .agg (rs.map Fld.val).toArray ∧ ∀ f ∈ rs, f.ok W := by
  have hlen : ks.length = fs.size := by simpa using (allKd_get hall).1
  have hk : ∀ (j : Nat) (f : Field) (kd : Kd), fs[j]? = some f → ks[j]? = some kd → KdOk P f.type kd := fun j f kd hf hkd => (allKd_get hall).2 j f kd (by simpa using hf) hkd
  obtain ⟨cs, rfl, hsz⟩ := okWide_struct hs hv
  obtain ⟨fuel, hf⟩ := h
  obtain ⟨xs, n', _, _, _, hxl, hg⟩ := DataW.trod_struct hs hf
  have hcl : (Value.agg cs).cells.toList.length = fs.size := by show cs.toList.length = _; rw [Array.length_toList, hsz, hC]
  have hfl : ∀ j, j < fs.size → ∃ f : Fld, ks[j]? = some f.kd ∧ cs[j]? = some f.val ∧ f.ok W := by
    intro j hj
    have hfj : fs[j]? = some fs[j] := by simp [hj]
    have hkj : ks[j]? = some (ks[j]'(by omega)) := List.getElem?_eq_getElem (by omega)
    obtain ⟨ho, hc1⟩ := hone_of hone j _ hfj
    have hjc : j < (Value.agg cs).cells.toList.length := by omega
    have h3 := hg j _ hfj
    rw [ho, hc1, List.drop_eq_getElem_cons hjc] at h3
    have h3 : DataW.trod enc P W 0 (fun _ => true) true n' fs[j].type [(Value.agg cs).cells.toList[j]] = xs[j]? := h3
    have hxj : xs[j]? = some (xs[j]'(by omega)) := List.getElem?_eq_getElem (by omega)
    rw [hxj] at h3
    obtain ⟨f, hf1, hf2, hf3⟩ := open_fld (hk j _ _ hfj hkj) (v := (Value.agg cs).cells.toList[j]) h3
    refine ⟨f, by rw [hkj, hf1], ?_, hf3⟩
    rw [← hf2]
    have : j < cs.size := by omega
    show cs[j]? = some (cs.toList[j]'(by simpa using this))
    simp [this]
  obtain ⟨rs, hr, hp⟩ := list_of fs.size hfl
  refine ⟨rs, ?_, ?_, fun f hf => ?_⟩
  · apply List.ext_getElem?
    intro j
    by_cases hj : j < fs.size
    · have hrj : rs[j]? = some (rs[j]'(by omega)) := List.getElem?_eq_getElem (by omega)
      rw [List.getElem?_map, hrj]
      exact ((hp j _ hrj).1).symm
    · rw [List.getElem?_eq_none (by simp; omega), List.getElem?_eq_none (by omega)]
  · congr 1
    apply Array.ext
    · simp; omega
    · intro j h1 h2
      have hj : j < fs.size := by omega
      have hrj : rs[j]? = some (rs[j]'(by omega)) := List.getElem?_eq_getElem (by omega)
      have := (hp j _ hrj).2.1
      rw [Array.getElem?_eq_getElem h1] at this
      simpa using this
  · obtain ⟨j, hj, e⟩ := List.mem_iff_getElem.1 hf
    exact (hp j f (by rw [List.getElem?_eq_getElem hj, e])).2.2

theorem fld_int {f : Fld} {k : IntKind} (h : f.kd = .int k) : ∃ a, f = .int k a := by
  cases f with
  | int k' a => simp [Fld.kd] at h; subst h; exact ⟨a, rfl⟩
  | bool b => simp [Fld.kd] at h
  | ints k' a c z => simp [Fld.kd] at h
/-- The first of the fields, and the others. -/
theorem flds_cons {rs : List Fld} {k : Kd} {ks : List Kd} (h : rs.map Fld.kd = k :: ks) : ∃ f r, rs = f :: r ∧ f.kd = k ∧ r.map Fld.kd = ks := by
  cases rs with
  | nil => simp at h
  | cons f r => simp at h; exact ⟨f, r, rfl, h.1, h.2⟩
theorem flds_nil {rs : List Fld} (h : rs.map Fld.kd = []) : rs = [] := by simpa using h
end

end Go.Proofs.YtlgkgijgnmancaaDoor.Pk
