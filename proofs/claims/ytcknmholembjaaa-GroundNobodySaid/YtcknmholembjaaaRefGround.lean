/-
  The document's ground.
-/
import Derived.Test.YtcknmholembjaaaGround2
import Derived.Deep.RegionHeld3
namespace Go.Proofs.Ytcknmholembjaaa.Pk
open Go.RowKit
set_option linter.unusedVariables false
set_option linter.unusedSimpArgs false

/-- The document's ground at p. -/
structure RG (w : World) (p : Pl) (c : Cf) (s : St) : Prop where
  head : Blk w p.a #[.int .i64 (c.N : Int), .int .i64 (c.W : Int), .int .i64 (c.R : Int), .int .i64 (c.K : Int), .pointer (some ⟨p.s, 0, none⟩)] 44
  st : Sto w 41 50 p.s p.g s.zs (u64m s.m)
  len : s.zs.length = c.size
  as_ : p.a ≠ p.s
  ag : p.a ≠ p.g
  may : c.May
  wf : WfZ s.zs
def RGP (w : World) (p : Pl) (c : Cf) (s : St) (v : Value) (en : Ending) (w' : World) : Prop :=
  en = .returned v ∧ RG w' p c s ∧ Touch (inG p) w w'
theorem RG.touch {X : Nat → Prop} {w w' : World} {p : Pl} {c : Cf} {s : St} (h : RG w p c s) (k : Touch X w w') (hX : ∀ b, ofG p b → ¬ X b) : RG w' p c s :=
  ⟨h.head.touch k (hX _ (.inl rfl)), h.st.touch k (hX _ (.inr (.inl rfl))) (hX _ (.inr (.inr rfl))), h.len, h.as_, h.ag, h.may, h.wf⟩
theorem RG.later {w w' : World} {p : Pl} {c : Cf} {s : St} (h : RG w p c s) (k : Below w.heap.size w w') : RG w' p c s :=
  ⟨h.head.later k, h.st.later k, h.len, h.as_, h.ag, h.may, h.wf⟩
theorem RG.drew {w : World} {p : Pl} {c : Cf} {s : St} (h : RG w p c s) : RG w.drew p c s := ⟨h.head.drew, h.st.drew, h.len, h.as_, h.ag, h.may, h.wf⟩
theorem RG.alloc {w : World} {p : Pl} {c : Cf} {s : St} (h : RG w p c s) (o : Obj) : RG (w.alloc o) p c s := ⟨h.head.alloc o, h.st.alloc o, h.len, h.as_, h.ag, h.may, h.wf⟩
theorem RG.drw {w w' : World} {p : Pl} {c : Cf} {s : St} (h : RG w p c s) (k : Drw w w') : RG w' p c s := h.later k.new
theorem RG.cN {w : World} {p : Pl} {c : Cf} {s : St} (h : RG w p c s) : w.cell? ⟨p.a, 0, none⟩ = some (.int .i64 (c.N : Int)) := h.head.cell 0 rfl
theorem RG.cW {w : World} {p : Pl} {c : Cf} {s : St} (h : RG w p c s) : w.cell? ⟨p.a, 1, none⟩ = some (.int .i64 (c.W : Int)) := h.head.cell 1 rfl
theorem RG.cR {w : World} {p : Pl} {c : Cf} {s : St} (h : RG w p c s) : w.cell? ⟨p.a, 2, none⟩ = some (.int .i64 (c.R : Int)) := h.head.cell 2 rfl
theorem RG.cK {w : World} {p : Pl} {c : Cf} {s : St} (h : RG w p c s) : w.cell? ⟨p.a, 3, none⟩ = some (.int .i64 (c.K : Int)) := h.head.cell 3 rfl
theorem RG.ptr {w : World} {p : Pl} {c : Cf} {s : St} (h : RG w p c s) : w.cell? ⟨p.a, 4, none⟩ = some (.pointer (some ⟨p.s, 0, none⟩)) := h.head.cell 4 rfl
theorem RG.step {w w' : World} {p : Pl} {c : Cf} {s s' : St} (h : RG w p c s) (hS : Sto w' 41 50 p.s p.g s'.zs (u64m s'.m)) (k : Touch (inG p) w w') (hl : s'.zs.length = s.zs.length) (hw : WfZ s'.zs) : RG w' p c s' :=
  ⟨h.head.touch k (by have := h.as_; have := h.ag; unfold inG inSto; omega), hS, hl.trans h.len, h.as_, h.ag, h.may, hw⟩

/-- A place's number; -1: there is none. -/
def atI (k : Option Nat) : Int := match k with | some k => (k : Int) | none => -1
theorem atI_some {o : Option Nat} {k : Nat} (h : o = some k) : atI o = (k : Int) := by rw [h]; rfl
theorem atI_none {o : Option Nat} (h : o = none) : atI o = -1 := by rw [h]; rfl

theorem refRegAt_any (r : Int) (w : World) : Calls Try.prog 33 #[.int .i64 r] w fun e w' => e = .returned (.int .i64 (atI (regA r))) ∧ w = w' := by
  have hI : Hid (atI (regA r) = if bel r 24 then r else -1) := Lib.hid (by
    unfold regA
    cases h : bel r 24 with
    | true => obtain ⟨k, rfl, _⟩ := bel_nat h; simp [atI]
    | false => rfl)
  by_cases h0 : r < 0
  · have e : atI (regA r) = -1 := by rw [hI.out, show bel r 24 = false by unfold bel; exact decide_eq_false (by omega)]; rfl
    rw [e]
    go_enter Try.func33, Try.ntmps33
    go_wp2
    go_ret
    exact ⟨rfl, rfl⟩
  · by_cases h1 : 24 ≤ r
    · have e : atI (regA r) = -1 := by rw [hI.out, show bel r 24 = false by unfold bel; exact decide_eq_false (by omega)]; rfl
      rw [e]
      go_enter Try.func33, Try.ntmps33
      go_wp2
      go_ret
      exact ⟨rfl, rfl⟩
    · have e : atI (regA r) = r := by rw [hI.out, show bel r 24 = true by unfold bel; exact decide_eq_true (by omega)]; rfl
      rw [e]
      go_enter Try.func33, Try.ntmps33
      go_wp2
      go_ret
      exact ⟨rfl, rfl⟩
theorem refRootAt_any (c : Cf) (r : Int) (w : World) (hm : c.May) : Calls Try.prog 34 #[c.val, .int .i64 r] w fun e w' => e = .returned (.int .i64 (atI (rootA c r))) ∧ Below w.heap.size w w' := by
  have hI : Hid (atI (rootA c r) = if bel r c.R then 24 + r else -1) := Lib.hid (by
    unfold rootA
    cases h : bel r c.R with
    | true => obtain ⟨k, rfl, _⟩ := bel_nat h; simp [atI]
    | false => rfl)
  have hR := hm.r
  clear hm
  unfold Cf.val
  by_cases h0 : r < 0
  · have e : atI (rootA c r) = -1 := by rw [hI.out, show bel r c.R = false by unfold bel; exact decide_eq_false (by omega)]; rfl
    rw [e]
    go_enter Try.func34, Try.ntmps34
    go_wp2
    go_ret
    exact ⟨rfl, below_new w _⟩
  · by_cases h1 : (c.R : Int) ≤ r
    · have e : atI (rootA c r) = -1 := by rw [hI.out, show bel r c.R = false by unfold bel; exact decide_eq_false (by omega)]; rfl
      rw [e]
      go_enter Try.func34, Try.ntmps34
      go_wp2
      go_ret
      exact ⟨rfl, below_new w _⟩
    · have e : atI (rootA c r) = 24 + r := by rw [hI.out, show bel r c.R = true by unfold bel; exact decide_eq_true (by omega)]; rfl
      rw [e]
      go_enter Try.func34, Try.ntmps34
      go_wp2
      go_ret
      exact ⟨rfl, below_new w _⟩
theorem refWordAt_any (c : Cf) (b v : Int) (w : World) (hm : c.May) : Calls Try.prog 35 #[c.val, .int .i64 b, .int .i64 v] w fun e w' => e = .returned (.int .i64 (atI (wordA c b v))) ∧ Below w.heap.size w w' := by
  have hNo : ∀ (h : b < 0 ∨ (c.N : Int) ≤ b ∨ v < 0 ∨ (c.W : Int) ≤ v), atI (wordA c b v) = -1 := fun h => by
    apply atI_none
    unfold wordA
    by_cases hb : bel b c.N = true
    · have := of_decide_eq_true (show decide (0 ≤ b ∧ b < (c.N : Int)) = true from hb)
      rw [show bel v c.W = false by unfold bel; exact decide_eq_false (by omega)]
      simp
    · simp [hb]
  have hR := hm.r
  have hW := hm.w
  have hN := hm.n
  have hsz := hm.size
  clear hm
  unfold Cf.val
  by_cases h0 : b < 0
  · rw [hNo (.inl h0)]
    clear hNo
    go_enter Try.func35, Try.ntmps35
    go_wp2
    go_ret
    exact ⟨rfl, below_new w _⟩
  · by_cases h1 : (c.N : Int) ≤ b
    · rw [hNo (.inr (.inl h1))]
      clear hNo
      go_enter Try.func35, Try.ntmps35
      go_wp2
      go_ret
      exact ⟨rfl, below_new w _⟩
    · by_cases h2 : v < 0
      · rw [hNo (.inr (.inr (.inl h2)))]
        clear hNo
        go_enter Try.func35, Try.ntmps35
        go_wp2
        go_ret
        exact ⟨rfl, below_new w _⟩
      · by_cases h3 : (c.W : Int) ≤ v
        · rw [hNo (.inr (.inr (.inr h3)))]
          clear hNo
          go_enter Try.func35, Try.ntmps35
          go_wp2
          go_ret
          exact ⟨rfl, below_new w _⟩
        · obtain ⟨i, rfl⟩ := Int.eq_ofNat_of_zero_le (show 0 ≤ b by omega)
          obtain ⟨j, rfl⟩ := Int.eq_ofNat_of_zero_le (show 0 ≤ v by omega)
          have hi : i < c.N := by omega
          have hj : j < c.W := by omega
          have hlt := wordA_lt' hi hj
          have e0 : ((i * c.W : Nat) : Int) = (i : Int) * (c.W : Int) := Int.natCast_mul _ _
          have hbw : 0 ≤ (i : Int) * (c.W : Int) ∧ (i : Int) * (c.W : Int) ≤ 4198424 := by omega
          have e : atI (wordA c (i : Int) (j : Int)) = 24 + (c.R : Int) + (i : Int) * (c.W : Int) + (j : Int) := by
            rw [atI_some (k := 24 + c.R + i * c.W + j) (by unfold wordA; rw [bel_mk hi, bel_mk hj]; simp)]
            omega
          rw [e]
          clear hNo e
          generalize hx : (i : Int) * (c.W : Int) = x at hbw ⊢
          have hx' := Lib.hid hx
          have w1 : IntKind.i64.wrap ((i : Int) * (c.W : Int)) = x := by rw [hx]; exact IntWalk.i64_in _ (by omega)
          have w2 : IntKind.i64.wrap (24 + (c.R : Int)) = 24 + (c.R : Int) := IntWalk.i64_in _ (by omega)
          have w3 : IntKind.i64.wrap (24 + (c.R : Int) + x) = 24 + (c.R : Int) + x := IntWalk.i64_in _ (by omega)
          have w4 : IntKind.i64.wrap (24 + (c.R : Int) + x + (j : Int)) = 24 + (c.R : Int) + x + (j : Int) := IntWalk.i64_in _ (by omega)
          clear hx e0 hlt
          go_enter Try.func35, Try.ntmps35
          go_wp2
          go_ret
          exact ⟨rfl, below_new w _⟩

theorem rget_any (p : Pl) (c : Cf) (s : St) (o : Option Nat) (w : World) (hG : RG w p c s) (ho : ∀ k, o = some k → k < c.size) :
    Calls Try.prog 36 #[.pointer (some ⟨p.s, 0, none⟩), .int .i64 (atI o)] w (RGP w p c (s.ask o) (.int .u32 (s.at? o))) := by
  cases o with
  | none => exact (refGet_no p.s p.g s.zs (u64m s.m) (-1) w hG.st (.inl (by decide))).mono fun e w' ⟨he, hw⟩ => by subst hw; exact ⟨he, hG, Touch.refl _ _⟩
  | some k => exact (mrefGet_yes p.s p.g s.zs s.m k w hG.st (by rw [hG.len]; exact ho k rfl)).mono fun e w' ⟨he, hS, hT⟩ => ⟨he, hG.step (s' := s.got) hS hT rfl hG.wf, hT⟩
theorem rput_any (p : Pl) (c : Cf) (s : St) (o : Option Nat) (v : Int) (w : World) (hG : RG w p c s) (ho : ∀ k, o = some k → k < c.size) (h0 : 0 ≤ v) (h1 : v ≤ 4294967295) :
    Calls Try.prog 55 #[.pointer (some ⟨p.s, 0, none⟩), .int .i64 (atI o), .int .u32 v] w (RGP w p c (s.put o v) (.bool o.isSome)) := by
  cases o with
  | none => exact (refPut_no p.s p.g s.zs (u64m s.m) (-1) v w hG.st (.inl (by decide))).mono fun e w' ⟨he, hw⟩ => by subst hw; exact ⟨he, hG, Touch.refl _ _⟩
  | some k => exact (mrefPut_yes p.s p.g s.zs s.m v k w hG.st (by rw [hG.len]; exact ho k rfl)).mono fun e w' ⟨he, hS, hT⟩ => ⟨he, hG.step (s' := s.set k v) hS hT (s.set_len k v) (hG.wf.set k h0 h1), hT⟩

theorem rset_any (p : Pl) (c : Cf) (s : St) (o : Option Nat) (v : Int) (w : World) (hG : RG w p c s) (ho : ∀ k, o = some k → k < c.size) :
    Calls Try.prog 37 #[.pointer (some ⟨p.a, 0, none⟩), .int .i64 (atI o), .int .i64 v] w (RGP w p c (s.putN o v) (.bool (putB o v))) := by
  have cp := hG.ptr
  have HG := Lib.hid hG
  have HO := Lib.hid ho
  clear hG ho
  cases o with
  | none =>
    have e : atI none = -1 := rfl
    rw [e, show s.putN none v = s by unfold St.putN; split <;> rfl]
    go_enter Try.func37, Try.ntmps37
    go_wp2_with fail
    go_ret
    exact ⟨rfl, HG.out, Touch.refl _ _⟩
  | some k =>
    have e : atI (some k) = (k : Int) := rfl
    by_cases h0 : v < 0
    · rw [e, show s.putN (some k) v = s by unfold St.putN; rw [show fitsB v = false by unfold fitsB; exact decide_eq_false (by omega)]; rfl, show putB (some k) v = false by unfold putB; rw [show fitsB v = false by unfold fitsB; exact decide_eq_false (by omega)]; rfl]
      go_enter Try.func37, Try.ntmps37
      go_wp2_with fail
      go_ret
      exact ⟨rfl, HG.out, Touch.refl _ _⟩
    · by_cases h1 : 4294967295 < v
      · rw [e, show s.putN (some k) v = s by unfold St.putN; rw [show fitsB v = false by unfold fitsB; exact decide_eq_false (by omega)]; rfl, show putB (some k) v = false by unfold putB; rw [show fitsB v = false by unfold fitsB; exact decide_eq_false (by omega)]; rfl]
        go_enter Try.func37, Try.ntmps37
        go_wp2_with fail
        go_ret
        exact ⟨rfl, HG.out, Touch.refl _ _⟩
      · rw [e, show s.putN (some k) v = s.put (some k) v by unfold St.putN; rw [show fitsB v = true by unfold fitsB; exact decide_eq_true (by omega)]; rfl, show putB (some k) v = true by unfold putB; rw [show fitsB v = true by unfold fitsB; exact decide_eq_true (by omega)]; rfl]
        have hwr : IntKind.u32.wrap v = v := IntWalk.u32_in _ (by omega)
        go_enter Try.func37, Try.ntmps37
        go_wp2_with fail
        refine (rput_any p c s (some k) v _ HG.out HO.out (by omega) (by omega)).mono ?_
        rintro e w1 ⟨rfl, hS, hT⟩
        have HS := Lib.hid hS
        have HT := Lib.hid hT
        clear hS hT
        go_wp2_with fail
        go_ret
        exact ⟨rfl, HS.out, HT.out⟩

theorem rsee_any (p : Pl) (c : Cf) (s : St) (o : Option Nat) (w : World) (hG : RG w p c s) (ho : ∀ k, o = some k → k < c.size) :
    Calls Try.prog 39 #[.pointer (some ⟨p.a, 0, none⟩), .int .i64 (atI o)] w fun e w' => e = .returned (.int .i64 (s.at? o)) ∧ w = w' := by
  have cp := hG.ptr
  have cs := hG.st.slice
  cases o with
  | none =>
    have e : atI none = -1 := rfl
    rw [e]
    clear hG ho
    go_enter Try.func39, Try.ntmps39
    go_wp2_with fail
    go_ret
    exact ⟨rfl, rfl⟩
  | some k =>
    have hk : k < s.zs.length := by rw [hG.len]; exact ho k rfl
    have e : atI (some k) = (k : Int) := rfl
    rw [e]
    have cw := hG.st.word hk
    have hwr : IntKind.i64.wrap (nth s.zs k) = nth s.zs k := by have := hG.wf k; exact IntWalk.i64_in _ (by omega)
    clear hG ho e
    go_enter Try.func39, Try.ntmps39
    go_wp2_with fail
    go_ret
    exact ⟨rfl, rfl⟩

end Go.Proofs.Ytcknmholembjaaa.Pk
