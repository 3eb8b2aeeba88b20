/-
  A ring's head and an object's head are one: the ring among a heap's objects, each without the other. No program in sight.
-/
import Derived.Test.YtgmbamehmecnlaaCountMath
import Derived.Test.YtgmbamehmecnlaaRingMath
namespace Go.Proofs.Ytgmbamehmecnlaa.Pk
open Go.RowKit
set_option linter.unusedVariables false
set_option linter.unusedSimpArgs false

/-- Only registers past the pool's, and the words 0 and 3 to 7 of heads, may be other ones; each tag is right, and of the same kind. -/
structure HeadsOnly (c : Cf) (zs zs' : List Int) (os : List Ob) : Prop where
  len : zs'.length = zs.length
  out : ∀ i, (i < 3 ∨ 24 ≤ i) → (∀ o, o ∈ os → ∀ v, v < 8 → v ≠ 1 → v ≠ 2 → i ≠ adr c o.h v) → nth zs' i = nth zs i
  tag : ∀ o, o ∈ os → TagOk (nth zs' (adr c o.h 0)) ∧ uK (nth zs' (adr c o.h 0)) = uK (nth zs (adr c o.h 0))
theorem adr_24 (c : Cf) (b v : Nat) : 24 ≤ adr c b v := by unfold adr; omega

section
variable {c : Cf} {zs zs' : List Int} {o : Ob} {pool l : List Nat} {os : List Ob}
theorem HeapAt.heads (h : HeapAt c zs pool os) (hm : c.May) (k : HeadsOnly c zs zs' os) : HeapAt c zs' pool os ∧ ∀ o' i, o' ∈ os → i < o'.f → fldV c zs' o' i = fldV c zs o' i := by
  have hw := hm.w
  have hb : ∀ b u, u < c.W → (∀ o, o ∈ os → b ≠ o.h) → nth zs' (adr c b u) = nth zs (adr c b u) := fun b u hu hn => k.out _ (.inr (adr_24 c b u)) (fun o ho v hv _ _ e => hn o ho (adr_inj hu (by omega) e).1)
  have hp : ∀ b, b ∈ pool → ∀ o, o ∈ os → b ≠ o.h := fun b hb o ho e => h.notPool ho o.head_mem (e ▸ hb)
  have hl : ∀ o b, o ∈ os → b + 1 ∈ o.lv → ∀ o', o' ∈ os → b ≠ o'.h := fun o b ho hb o' ho' e => by
    have hb' : b ∈ o.blocks := by unfold Ob.blocks; exact List.mem_cons_of_mem _ (Ob.mem_leaves.2 hb)
    obtain rfl := h.own ho ho' hb' (by rw [e]; exact o'.head_mem)
    exact (List.nodup_cons.1 (h.ownB ho)).1 (by rw [← e]; exact Ob.mem_leaves.2 hb)
  have hh : ∀ o, o ∈ os → ∀ u, u < c.W → (u = 1 ∨ u = 2 ∨ 8 ≤ u) → nth zs' (adr c o.h u) = nth zs (adr c o.h u) := fun o ho u hu h3 => k.out _ (.inr (adr_24 c _ u)) (fun o' ho' v hv h1 h2 e => by
    have := (adr_inj hu (by omega) e).2
    omega)
  have hreg : ∀ r, r < 3 → nth zs' r = nth zs r := fun r hr => k.out r (.inl hr) (fun o ho v _ _ _ e => by have := adr_24 c o.h v; omega)
  refine ⟨⟨⟨h.pl.ch.congr (hreg _ (by omega)) (hreg _ (by omega)) (hreg _ (by omega)) (fun b hb' => by rw [lnk_adr]; exact hb b 5 (by omega) (hp b hb')), fun b hb' => by rw [hb b 0 (by omega) (hp b hb')]; exact h.pl.fr b hb'⟩, fun o ho => ?_, h.perm⟩, fun o i ho hi => ?_⟩
  · exact (h.obs o ho).congr (k.tag o ho) (hh o ho 1 (by omega) (by omega)) (hh o ho 2 (by omega) (by omega)) (fun j hj => hh o ho (8 + j) (by have := (h.obs o ho).lvW hm; omega) (by omega)) (fun b hb' => hb b 0 (by omega) (hl o b ho hb'))
  · unfold fldV
    cases hf : fieldA c o i with
    | none => rfl
    | some a =>
      have ha : 24 ≤ a := by
        unfold fieldA at hf
        cases hq : fieldP c o i with
        | none => rw [hq] at hf; cases hf
        | some q => rw [hq] at hf; simp at hf; rw [← hf]; exact adr_24 c _ _
      exact k.out a (.inr ha) (fun o' ho' v hv _ _ => h.field_ne hm ho' ho hi hf hv)

/-- Each block: clean, a head, or a leaf. -/
theorem HeapAt.kinds (h : HeapAt c zs pool os) {b : Nat} (hb : b < c.N) : nth zs (adr c b 0) = 0 ∨ (∃ o, o ∈ os ∧ o.h = b) ∨ ∃ x : Nat, x < c.N ∧ nth zs (adr c b 0) = 3 + 256 * (x : Int) := by
  rcases h.all hb with hp | ⟨o, ho, hb'⟩
  · exact .inl (h.pl.fr b hp)
  · unfold Ob.blocks at hb'
    rcases List.mem_cons.1 hb' with e | hl
    · exact .inr (.inl ⟨o, ho, e.symm⟩)
    · exact .inr (.inr ⟨o.h, (h.obs o ho).hlt, (h.obs o ho).leaf b (Ob.mem_leaves.1 hl)⟩)
theorem leaf_tag {x : Nat} (hx : x < 1048576) : TagOk (3 + 256 * (x : Int)) ∧ uG (3 + 256 * (x : Int)) = 0 ∧ uK (3 + 256 * (x : Int)) = 3 := by
  unfold TagOk RightT uK uC uN uS uD uG uO
  omega
theorem zero_tag : TagOk 0 ∧ uG 0 = 0 ∧ uK 0 = 0 := by unfold TagOk RightT uK uC uN uS uD uG uO; omega
/-- Who stands in the ring is an object's head. -/
theorem HeapAt.ringHead (h : HeapAt c zs pool os) (hm : c.May) (hr : RingAt c zs l) {b : Nat} (hb : b ∈ l) : ∃ o, o ∈ os ∧ o.h = b := by
  have hn := hm.n
  rcases h.kinds (hr.lt b hb) with h0 | h1 | ⟨x, hx, h2⟩
  · have := hr.hd b hb
    rw [h0] at this
    unfold HeadT at this
    rw [zero_tag.2.2] at this
    omega
  · exact h1
  · have := hr.hd b hb
    rw [h2] at this
    unfold HeadT at this
    rw [(leaf_tag (x := x) (by omega)).2.2] at this
    omega
/-- No word that the ring needs is another one. -/
theorem RingAt.congr (h : RingAt c zs l) (hr : ∀ r, r = 7 ∨ r = 8 ∨ r = 9 → nth zs' r = nth zs r) (ht : ∀ b, b < c.N → nth zs' (adr c b 0) = nth zs (adr c b 0)) (hs : ∀ b, b ∈ l → nth zs' (adr c b 6) = nth zs (adr c b 6) ∧ nth zs' (adr c b 7) = nth zs (adr c b 7)) : RingAt c zs' l :=
  ⟨by rw [hr 7 (by omega)]; exact h.r7, by rw [hr 8 (by omega)]; exact h.r8, by rw [hr 9 (by omega)]; exact h.r9, h.lt, h.nd, h.seg.congr hs, fun b hb => by rw [ht b hb]; exact h.tok b hb, fun b hb => by rw [ht b (h.lt b hb)]; exact h.hd b hb, fun b hb => by rw [ht b hb]; exact h.mrk b hb⟩
/-- A word of a head that the ring doesn't need is set. -/
theorem RingAt.setOwn (h : RingAt c zs l) (hm : c.May) {b v : Nat} (h0 : v ≠ 0) (h6 : v ≠ 6) (h7 : v ≠ 7) (hv : v < 8) (x : Int) : RingAt c (zs.set (adr c b v) x) l := by
  have hw := hm.w
  have hne : ∀ a u, u < 8 → u ≠ v → nth (zs.set (adr c b v) x) (adr c a u) = nth zs (adr c a u) := fun a u hu hn => nth_set_ne (fun e => hn (adr_inj (by omega) (by omega) e).2.symm) x
  exact h.congr (fun r hr => nth_set_ne (fun e => by have := adr_24 c b v; omega) x) (fun a _ => hne a 0 (by omega) (Ne.symm h0)) (fun a _ => ⟨hne a 6 (by omega) (Ne.symm h6), hne a 7 (by omega) (Ne.symm h7)⟩)

theorem HeapAt.ringAdd (h : HeapAt c zs pool os) (hr : RingAt c zs l) (hm : c.May) (hz : zs.length = c.size) (ho : o ∈ os) (hn : o.h ∉ l) :
    RingAt c (ringAddZ c o.h zs) (l ++ [o.h]) ∧ HeadsOnly c zs (ringAddZ c o.h zs) os ∧ ∀ o', o' ∈ os → nth (ringAddZ c o.h zs) (adr c o'.h 3) = nth zs (adr c o'.h 3) := by
  have hw := hm.w
  have hA := h.obs o ho
  have hR := hr.add hm hz hA.hlt hn hA.head
  have hg := hr.mk0 hA.hlt hn
  refine ⟨hR, ⟨ringAddZ_length c o.h zs, fun i hi hne => ?_, fun o' ho' => ?_⟩, fun o' ho' => ringAdd_out hr hz ⟨by have := adr_24 c o'.h 3; omega, by have := adr_24 c o'.h 3; omega, by have := adr_24 c o'.h 3; omega, fun e => by have := (adr_inj (by omega) (by omega) e).2; omega, fun x _ => ⟨fun e => by have := (adr_inj (by omega) (by omega) e).2; omega, fun e => by have := (adr_inj (by omega) (by omega) e).2; omega⟩⟩⟩
  · refine ringAdd_out hr hz ⟨by omega, by omega, by omega, hne o ho 0 (by omega) (by omega) (by omega), fun x hx => ?_⟩
    obtain ⟨o', ho', rfl⟩ : ∃ o', o' ∈ os ∧ o'.h = x := by
      rcases hx with rfl | hx
      · exact ⟨o, ho, rfl⟩
      · exact h.ringHead hm hr hx
    exact ⟨hne o' ho' 6 (by omega) (by omega) (by omega), hne o' ho' 7 (by omega) (by omega) (by omega)⟩
  · refine ⟨hR.tok _ (h.obs o' ho').hlt, ?_⟩
    rw [ringAdd_tag hm hz (h.obs o' ho').hlt]
    split
    · rename_i e
      rw [e]
      exact (hA.tok.ring1 hA.head hg).2.2.2.1
    · rfl
theorem HeapAt.ringCut {l1 l2 : List Nat} (h : HeapAt c zs pool os) (hr : RingAt c zs (l1 ++ o.h :: l2)) (hm : c.May) (hz : zs.length = c.size) (ho : o ∈ os) :
    RingAt c (ringCutZ c o.h zs) (l1 ++ l2) ∧ HeadsOnly c zs (ringCutZ c o.h zs) os ∧ ∀ o', o' ∈ os → nth (ringCutZ c o.h zs) (adr c o'.h 3) = nth zs (adr c o'.h 3) := by
  have hw := hm.w
  have hA := h.obs o ho
  have hR := hr.cut hm hz
  have hg : uG (nth zs (adr c o.h 0)) = 1 := (hr.mrk _ hA.hlt).2 (by simp)
  refine ⟨hR, ⟨ringCutZ_length c o.h zs, fun i hi hne => ?_, fun o' ho' => ?_⟩, fun o' ho' => ringCut_out hr hz ⟨by have := adr_24 c o'.h 3; omega, by have := adr_24 c o'.h 3; omega, by have := adr_24 c o'.h 3; omega, fun e => by have := (adr_inj (by omega) (by omega) e).2; omega, fun x _ => ⟨fun e => by have := (adr_inj (by omega) (by omega) e).2; omega, fun e => by have := (adr_inj (by omega) (by omega) e).2; omega⟩⟩⟩
  · refine ringCut_out hr hz ⟨by omega, by omega, by omega, hne o ho 0 (by omega) (by omega) (by omega), fun x hx => ?_⟩
    obtain ⟨o', ho', rfl⟩ : ∃ o', o' ∈ os ∧ o'.h = x := by
      rcases hx with rfl | hx
      · exact ⟨o, ho, rfl⟩
      · refine h.ringHead hm hr (?_ : x ∈ l1 ++ o.h :: l2)
        rcases List.mem_append.1 hx with h1 | h1
        · simp [h1]
        · simp [h1]
    exact ⟨hne o' ho' 6 (by omega) (by omega) (by omega), hne o' ho' 7 (by omega) (by omega) (by omega)⟩
  · refine ⟨hR.tok _ (h.obs o' ho').hlt, ?_⟩
    rw [ringCut_tag hm hz (h.obs o' ho').hlt]
    split
    · rename_i e
      rw [e]
      exact (hA.tok.ring0 hA.head hg).2.2.2.1
    · rfl

/-- A heap in which nobody was counted, and no ring is. -/
structure Fresh (c : Cf) (zs : List Int) (os : List Ob) : Prop where
  reg : ∀ r, 3 ≤ r → r < 24 → nth zs r = 0
  tag : ∀ o, o ∈ os → nth zs (adr c o.h 0) = 1 ∨ nth zs (adr c o.h 0) = 2
  cnt : ∀ o, o ∈ os → nth zs (adr c o.h 3) = 0
theorem Opened.fresh (h : Opened c zs) : Fresh c zs [] := ⟨fun r h3 h24 => h.2 r (by omega) (fun b _ e => by have := adr_24 c b 5; omega), fun o ho => absurd ho (by simp), fun o ho => absurd ho (by simp)⟩
theorem MadeOb.fresh (h : MadeOb c zs zs' pool os o) (hf : Fresh c zs os) (hm : c.May) : Fresh c zs' (os ++ [o]) := by
  have hw := hm.w
  have hO : o ∈ os ++ [o] := by simp
  have hk : ∀ o', o' ∈ os → ∀ v, v < 8 → nth zs' (adr c o'.h v) = nth zs (adr c o'.h v) := fun o' ho' v hv => h.out _ (by have := adr_24 c o'.h v; omega) (fun b hb => inBlk_ne (fun e => by
    have := h.heap.nodupB
    rw [List.flatMap_append, List.nodup_append] at this
    exact this.2.2 o'.h (List.mem_flatMap.2 ⟨o', ho', o'.head_mem⟩) b (by simpa using hb) e) (by omega))
  refine ⟨fun r h3 h24 => by rw [h.out r (by omega) (fun b _ => inBlk_reg (by omega))]; exact hf.reg r h3 h24, fun o' ho' => ?_, fun o' ho' => ?_⟩
  · rcases List.mem_append.1 ho' with h1 | h1
    · rw [hk o' h1 0 (by omega)]; exact hf.tag o' h1
    · obtain rfl : o' = o := by simpa using h1
      rw [h.tag]
      split <;> simp
  · rcases List.mem_append.1 ho' with h1 | h1
    · rw [hk o' h1 3 (by omega)]; exact hf.cnt o' h1
    · obtain rfl : o' = o := by simpa using h1
      exact h.own 3 (by omega) (by omega)
theorem Fresh.setField (hf : Fresh c zs os) (h : HeapAt c zs pool os) (hm : c.May) (ho : o ∈ os) {i a : Nat} (hi : i < o.f) (ha : fieldA c o i = some a) (x : Int) : Fresh c (zs.set a x) os := by
  have ha24 : 24 ≤ a := by
    unfold fieldA at ha
    cases hq : fieldP c o i with
    | none => rw [hq] at ha; cases ha
    | some q => rw [hq] at ha; simp at ha; rw [← ha]; exact adr_24 c _ _
  have hk : ∀ o', o' ∈ os → ∀ v, v < 8 → nth (zs.set a x) (adr c o'.h v) = nth zs (adr c o'.h v) := fun o' ho' v hv => nth_set_ne (h.field_ne hm ho' ho hi ha hv) x
  exact ⟨fun r h3 h24 => by rw [nth_set_ne (by omega)]; exact hf.reg r h3 h24, fun o' ho' => by rw [hk o' ho' 0 (by omega)]; exact hf.tag o' ho', fun o' ho' => by rw [hk o' ho' 3 (by omega)]; exact hf.cnt o' ho'⟩
theorem Fresh.ring (hf : Fresh c zs os) (h : HeapAt c zs pool os) (hm : c.May) : RingAt c zs [] := by
  have hn := hm.n
  have hk : ∀ b, b < c.N → TagOk (nth zs (adr c b 0)) ∧ uG (nth zs (adr c b 0)) = 0 := fun b hb => by
    rcases h.kinds hb with h0 | ⟨o, ho, rfl⟩ | ⟨x, hx, h2⟩
    · rw [h0]; exact ⟨zero_tag.1, zero_tag.2.1⟩
    · refine ⟨(h.obs o ho).tok, ?_⟩
      rcases hf.tag o ho with e | e <;> rw [e] <;> decide
    · rw [h2]; exact ⟨(leaf_tag (by omega)).1, (leaf_tag (by omega)).2.1⟩
  refine ⟨by rw [hf.reg 7 (by omega) (by omega)]; rfl, by rw [hf.reg 8 (by omega) (by omega)]; rfl, by rw [hf.reg 9 (by omega) (by omega)]; rfl, by simp, by simp, trivial, fun b hb => (hk b hb).1, by simp, fun b hb => ?_⟩
  rw [(hk b hb).2]
  simp
end

end Go.Proofs.Ytgmbamehmecnlaa.Pk
