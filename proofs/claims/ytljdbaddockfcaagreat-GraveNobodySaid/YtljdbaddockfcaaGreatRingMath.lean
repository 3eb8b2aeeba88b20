/-
  The ring in a ground's words: what registers, links and tags say, and what is left of them when a block is added or cut. No program in sight.
-/
import Derived.Test.YtljdbaddockfcaaGreatChainMath
import Derived.Test.YtljdbaddockfcaaGreatActs
import Derived.Test.YtljdbaddockfcaaGreatTagMath
namespace Go.Proofs.YtljdbaddockfcaaGreat.Pk
open Go.RowKit
set_option linter.unusedVariables false
set_option linter.unusedSimpArgs false

/-- A word that a right tag has. -/
def TagOk (x : Int) : Prop := RightT (uK x) (uC x) (uN x) (uS x) (uD x) (uG x) (uO x) ∧ x / 128 % 2 = 0 ∧ 0 ≤ x
/-- .. of an object's head. -/
def HeadT (x : Int) : Prop := uK x = 1 ∨ uK x = 2
theorem TagOk.pack {x : Int} (h : TagOk x) : packI (uK x) (uC x) (uN x) (uS x) (uD x) (uG x) (uO x) = x := by
  rw [pack_unpack, h.2.1]; omega
theorem TagOk.bd {x : Int} (h : TagOk x) : 0 ≤ x ∧ x ≤ 268435455 := by
  obtain ⟨⟨_, ⟨o0, o1⟩, _⟩, h7, h0⟩ := h
  unfold uO at o1
  omega
theorem uG_01 (x : Int) : uG x = 0 ∨ uG x = 1 := by unfold uG; omega
theorem uK_bd (x : Int) : 0 ≤ uK x ∧ uK x < 4 := by unfold uK; omega
theorem TagOk.free {x : Int} (h : TagOk x) (hk : ¬ HeadT x) : uG x = 0 := by
  have := uK_bd x
  unfold HeadT at hk
  exact (h.1.2.2.2.2.2.2.2.2 (by omega)).2.2.2.2
/-- A tag with the mark Ring set. -/
theorem TagOk.ring1 {x : Int} (h : TagOk x) (hk : HeadT x) (hg : uG x = 0) :
    TagOk (x + 64) ∧ packI (uK x) (uC x) (uN x) (uS x) (uD x) 1 (uO x) = x + 64 ∧ RightT (uK x) (uC x) (uN x) (uS x) (uD x) 1 (uO x) ∧ uK (x + 64) = uK x ∧ uC (x + 64) = uC x ∧ uN (x + 64) = uN x ∧ uS (x + 64) = uS x ∧ uD (x + 64) = uD x ∧ uG (x + 64) = 1 ∧ uO (x + 64) = uO x := by
  have e0 : uK (x + 64) = uK x := by unfold uK; omega
  have e1 : uC (x + 64) = uC x := by unfold uC; omega
  have e2 : uN (x + 64) = uN x := by unfold uN; omega
  have e3 : uS (x + 64) = uS x := by unfold uS; omega
  have e4 : uD (x + 64) = uD x := by unfold uD; omega
  have e5 : uG (x + 64) = 1 := by unfold uG at hg ⊢; omega
  have h7 := h.2.1
  have e6 : uO (x + 64) = uO x := by unfold uO; unfold uG at hg; omega
  have r := h.1
  have hr : RightT (uK x) (uC x) (uN x) (uS x) (uD x) 1 (uO x) := by
    unfold HeadT at hk
    exact ⟨r.1, r.2.1, r.2.2.1, r.2.2.2.1, r.2.2.2.2.1, r.2.2.2.2.2.1, r.2.2.2.2.2.2.1, by omega, fun h => by omega⟩
  refine ⟨⟨by rw [e0, e1, e2, e3, e4, e5, e6]; exact hr, by unfold uG at hg; omega, by have := h.2.2; omega⟩, ?_, hr, e0, e1, e2, e3, e4, e5, e6⟩
  have hp := h.pack
  rw [hg] at hp
  unfold packI at hp ⊢
  omega
theorem TagOk.ring0 {x : Int} (h : TagOk x) (hk : HeadT x) (hg : uG x = 1) :
    TagOk (x - 64) ∧ packI (uK x) (uC x) (uN x) (uS x) (uD x) 0 (uO x) = x - 64 ∧ RightT (uK x) (uC x) (uN x) (uS x) (uD x) 0 (uO x) ∧ uK (x - 64) = uK x ∧ uC (x - 64) = uC x ∧ uN (x - 64) = uN x ∧ uS (x - 64) = uS x ∧ uD (x - 64) = uD x ∧ uG (x - 64) = 0 ∧ uO (x - 64) = uO x := by
  have e0 : uK (x - 64) = uK x := by unfold uK; omega
  have e1 : uC (x - 64) = uC x := by unfold uC; omega
  have e2 : uN (x - 64) = uN x := by unfold uN; omega
  have e3 : uS (x - 64) = uS x := by unfold uS; omega
  have e4 : uD (x - 64) = uD x := by unfold uD; omega
  have e5 : uG (x - 64) = 0 := by unfold uG at hg ⊢; omega
  have h7 := h.2.1
  have e6 : uO (x - 64) = uO x := by unfold uO; unfold uG at hg; omega
  have r := h.1
  have hr : RightT (uK x) (uC x) (uN x) (uS x) (uD x) 0 (uO x) := by
    unfold HeadT at hk
    exact ⟨r.1, r.2.1, r.2.2.1, r.2.2.2.1, r.2.2.2.2.1, r.2.2.2.2.2.1, r.2.2.2.2.2.2.1, by omega, fun h => by omega⟩
  refine ⟨⟨by rw [e0, e1, e2, e3, e4, e5, e6]; exact hr, by unfold uG at hg; omega, by have := h.2.2; unfold uG at hg; omega⟩, ?_, hr, e0, e1, e2, e3, e4, e5, e6⟩
  have hp := h.pack
  rw [hg] at hp
  unfold packI at hp ⊢
  omega

/-! ### Rows that are linked both ways -/
def fstD : List Nat → Int → Int
  | [], z => z
  | b :: _, _ => (b : Int) + 1
def lstD : List Nat → Int → Int
  | [], a => a
  | b :: t, _ => lstD t ((b : Int) + 1)
theorem fstD_0 (l : List Nat) : fstD l 0 = fstI l := by cases l <;> rfl
theorem lstD_snoc (l : List Nat) (b : Nat) (a : Int) : lstD (l ++ [b]) a = (b : Int) + 1 := by
  induction l generalizing a with
  | nil => rfl
  | cons x t ih => exact ih _
theorem lstD_0 (l : List Nat) : lstD l 0 = lstI l := by
  rcases List.eq_nil_or_concat l with rfl | ⟨t, x, rfl⟩
  · rfl
  · rw [List.concat_eq_append, lstD_snoc, lstI_snoc]
theorem fstD_append (l1 l2 : List Nat) (z : Int) : fstD (l1 ++ l2) z = fstD l1 (fstD l2 z) := by cases l1 <;> rfl
theorem lstD_append (l1 l2 : List Nat) (a : Int) : lstD (l1 ++ l2) a = lstD l2 (lstD l1 a) := by
  induction l1 generalizing a with
  | nil => rfl
  | cons x t ih => exact ih _
/-- A row of which the first one's Prev is a, and the last one's Next z. -/
def Seg (c : Cf) (zs : List Int) : Int → List Nat → Int → Prop
  | _, [], _ => True
  | a, b :: t, z => nth zs (adr c b 6) = a ∧ nth zs (adr c b 7) = fstD t z ∧ Seg c zs ((b : Int) + 1) t z
theorem Seg.congr {c : Cf} {zs zs' : List Int} {l : List Nat} {a z : Int} (h : Seg c zs a l z) (hc : ∀ b, b ∈ l → nth zs' (adr c b 6) = nth zs (adr c b 6) ∧ nth zs' (adr c b 7) = nth zs (adr c b 7)) : Seg c zs' a l z := by
  induction l generalizing a with
  | nil => trivial
  | cons b t ih => exact ⟨by rw [(hc b (by simp)).1]; exact h.1, by rw [(hc b (by simp)).2]; exact h.2.1, ih h.2.2 (fun x hx => hc x (by simp [hx]))⟩
theorem Seg_append {c : Cf} {zs : List Int} {l1 l2 : List Nat} {a z : Int} : Seg c zs a (l1 ++ l2) z ↔ Seg c zs a l1 (fstD l2 z) ∧ Seg c zs (lstD l1 a) l2 z := by
  induction l1 generalizing a with
  | nil => exact ⟨fun h => ⟨trivial, h⟩, fun h => h.2⟩
  | cons b t ih =>
    show (nth zs (adr c b 6) = a ∧ nth zs (adr c b 7) = fstD (t ++ l2) z ∧ Seg c zs ((b : Int) + 1) (t ++ l2) z) ↔ (nth zs (adr c b 6) = a ∧ nth zs (adr c b 7) = fstD t (fstD l2 z) ∧ Seg c zs ((b : Int) + 1) t (fstD l2 z)) ∧ Seg c zs (lstD t ((b : Int) + 1)) l2 z
    rw [ih, fstD_append]
    exact ⟨fun h => ⟨⟨h.1, h.2.1, h.2.2.1⟩, h.2.2.2⟩, fun h => ⟨h.1.1, h.1.2.1, h.1.2.2, h.2⟩⟩

/-- The ring in a ground's words. -/
structure RingAt (c : Cf) (zs : List Int) (l : List Nat) : Prop where
  r7 : nth zs 7 = fstI l
  r8 : nth zs 8 = lstI l
  r9 : nth zs 9 = (l.length : Int)
  lt : ∀ b, b ∈ l → b < c.N
  nd : l.Nodup
  seg : Seg c zs 0 l 0
  tok : ∀ b, b < c.N → TagOk (nth zs (adr c b 0))
  hd : ∀ b, b ∈ l → HeadT (nth zs (adr c b 0))
  mrk : ∀ b, b < c.N → (uG (nth zs (adr c b 0)) = 1 ↔ b ∈ l)
theorem RingAt.mk0 {c : Cf} {zs : List Int} {l : List Nat} (h : RingAt c zs l) {b : Nat} (hb : b < c.N) (hn : b ∉ l) : uG (nth zs (adr c b 0)) = 0 := by
  rcases uG_01 (nth zs (adr c b 0)) with h0 | h1
  · exact h0
  · exact absurd ((h.mrk b hb).1 h1) hn
theorem RingAt.split {c : Cf} {zs : List Int} {l1 l2 : List Nat} {b : Nat} (h : RingAt c zs (l1 ++ b :: l2)) : nth zs (adr c b 6) = lstI l1 ∧ nth zs (adr c b 7) = fstI l2 := by
  have := (Seg_append.1 h.seg).2
  exact ⟨by rw [this.1, lstD_0], by rw [this.2.1, fstD_0]⟩
theorem split_of {l : List Nat} {b : Nat} (h : b ∈ l) : ∃ l1 l2, l = l1 ++ b :: l2 := List.append_of_mem h

/-! ### The words behind each call -/
def ringAddN (c : Cf) (b : Nat) (zs : List Int) (i : Nat) : Int :=
  if i = 7 then (if nth zs 8 = 0 then (b : Int) + 1 else nth zs 7) else if i = 8 then (b : Int) + 1 else if i = 9 then nth zs 9 + 1
  else if i = adr c b 0 then nth zs (adr c b 0) + 64 else if i = adr c b 6 then nth zs 8 else if i = adr c b 7 then 0
  else if nth zs 8 ≠ 0 ∧ i = adr c (nth zs 8 - 1).toNat 7 then (b : Int) + 1 else nth zs i
def ringCutN (c : Cf) (b : Nat) (zs : List Int) (i : Nat) : Int :=
  if i = 7 then (if nth zs (adr c b 6) = 0 then nth zs (adr c b 7) else nth zs 7) else if i = 8 then (if nth zs (adr c b 7) = 0 then nth zs (adr c b 6) else nth zs 8) else if i = 9 then nth zs 9 - 1
  else if i = adr c b 0 then nth zs (adr c b 0) - 64 else if i = adr c b 6 then 0 else if i = adr c b 7 then 0
  else if nth zs (adr c b 6) ≠ 0 ∧ i = adr c (nth zs (adr c b 6) - 1).toNat 7 then nth zs (adr c b 7)
  else if nth zs (adr c b 7) ≠ 0 ∧ i = adr c (nth zs (adr c b 7) - 1).toNat 6 then nth zs (adr c b 6) else nth zs i
def ringAddZ (c : Cf) (b : Nat) (zs : List Int) : List Int := ofN zs.length (ringAddN c b zs)
def ringCutZ (c : Cf) (b : Nat) (zs : List Int) : List Int := ofN zs.length (ringCutN c b zs)
theorem ringAddZ_length (c : Cf) (b : Nat) (zs : List Int) : (ringAddZ c b zs).length = zs.length := ofN_length _ _
theorem ringCutZ_length (c : Cf) (b : Nat) (zs : List Int) : (ringCutZ c b zs).length = zs.length := ofN_length _ _
theorem adr_i {c : Cf} (hm : c.May) {a b u v : Nat} (hu : u < 16) (hv : v < 16) : (adr c a u = adr c b v) ↔ (a = b ∧ u = v) := by
  have := hm.w
  exact ⟨fun h => adr_inj (by omega) (by omega) h, fun h => by rw [h.1, h.2]⟩
theorem adr_le {c : Cf} (hm : c.May) {b u : Nat} (hb : b < c.N) (hu : u < 16) : adr c b u < c.size := by
  have := hm.w
  exact adr_lt hb (by omega)

section
variable {c : Cf} {zs : List Int} {b : Nat} {l : List Nat}
theorem RingAt.add (h : RingAt c zs l) (hm : c.May) (hz : zs.length = c.size) (hb : b < c.N) (hn : b ∉ l) (hk : HeadT (nth zs (adr c b 0))) : RingAt c (ringAddZ c b zs) (l ++ [b]) := by
  have hs := hm.size
  have g : ∀ i, i < c.size → nth (ringAddZ c b zs) i = ringAddN c b zs i := fun i hi => ofN_nth _ (by omega)
  have hR : ∀ (x u r : Nat), r < 24 → ¬ adr c x u = r := fun x u r hr => adr_reg' hr
  have hR' : ∀ (x u r : Nat), r < 24 → ¬ r = adr c x u := fun x u r hr => adr_reg hr
  have g0 : ∀ x, x < c.N → nth (ringAddZ c b zs) (adr c x 0) = if x = b then nth zs (adr c b 0) + 64 else nth zs (adr c x 0) := fun x hx => by
    rw [g _ (adr_le hm hx (by omega))]
    unfold ringAddN
    simp [hR, adr_i hm]
  have g6 : ∀ x, x < c.N → nth (ringAddZ c b zs) (adr c x 6) = if x = b then nth zs 8 else nth zs (adr c x 6) := fun x hx => by
    rw [g _ (adr_le hm hx (by omega))]
    unfold ringAddN
    simp [hR, adr_i hm]
  have g7 : ∀ x, x < c.N → nth (ringAddZ c b zs) (adr c x 7) = if x = b then 0 else if nth zs 8 ≠ 0 ∧ x = (nth zs 8 - 1).toNat then (b : Int) + 1 else nth zs (adr c x 7) := fun x hx => by
    rw [g _ (adr_le hm hx (by omega))]
    unfold ringAddN
    simp [hR, adr_i hm]
  have ht := h.tok b hb
  have hg0 := h.mk0 hb hn
  obtain ⟨t1, _, _, k1, _, _, _, _, g1, _⟩ := ht.ring1 hk hg0
  refine ⟨?_, ?_, ?_, ?_, ?_, ?_, ?_, ?_, ?_⟩
  · rw [g _ (by omega)]; unfold ringAddN; rw [if_pos rfl, h.r8, h.r7, fstI_snoc]
    by_cases e : l = []
    · subst e; rfl
    · rw [if_neg (fun h => e (lstI_zero h)), if_neg e]
  · rw [g _ (by omega)]; unfold ringAddN; rw [if_neg (by omega), if_pos rfl, lstI_snoc]
  · rw [g _ (by omega)]; unfold ringAddN; rw [if_neg (by omega), if_neg (by omega), if_pos rfl, h.r9]; simp
  · intro x hx
    rcases List.mem_append.1 hx with hx | hx
    · exact h.lt x hx
    · simp at hx; subst hx; exact hb
  · rw [List.nodup_append]
    exact ⟨h.nd, by simp, fun x hx y hy => by simp at hy; subst hy; exact fun e => hn (by rw [← e]; exact hx)⟩
  · rw [Seg_append]
    refine ⟨?_, ⟨by rw [g6 b hb, if_pos rfl, h.r8, lstD_0], by rw [g7 b hb, if_pos rfl]; rfl, trivial⟩⟩
    show Seg c _ 0 l ((b : Int) + 1)
    rcases List.eq_nil_or_concat l with rfl | ⟨t, x, rfl⟩
    · trivial
    · rw [List.concat_eq_append] at h hn ⊢
      have hx := h.lt x (by simp)
      have hxb : x ≠ b := fun e => hn (by simp [e])
      have h8 : nth zs 8 = (x : Int) + 1 := by rw [h.r8, lstI_snoc]
      have hnd := List.nodup_append.1 h.nd
      obtain ⟨s1, s2, s3, _⟩ := Seg_append.1 h.seg
      rw [Seg_append]
      refine ⟨s1.congr (fun y hy => ?_), ?_, ?_, trivial⟩
      · have hyN := h.lt y (by simp [hy])
        have hyb : y ≠ b := fun e => hn (by simp [← e, hy])
        have hyx : y ≠ x := fun e => hnd.2.2 y hy x (by simp) e
        rw [g6 y hyN, if_neg hyb, g7 y hyN, if_neg hyb, h8, if_neg (by omega)]
        exact ⟨rfl, rfl⟩
      · rw [g6 x hx, if_neg hxb]; exact s2
      · rw [g7 x hx, if_neg hxb, h8, if_pos ⟨by omega, by omega⟩]; rfl
  · intro x hx
    rw [g0 x hx]
    by_cases e : x = b
    · rw [if_pos e]; exact t1
    · rw [if_neg e]; exact h.tok x hx
  · intro x hx
    rcases List.mem_append.1 hx with hx | hx
    · have : x ≠ b := fun e => hn (by rw [← e]; exact hx)
      rw [g0 x (h.lt x hx), if_neg this]; exact h.hd x hx
    · simp at hx; subst hx
      rw [g0 x hb, if_pos rfl]; unfold HeadT at hk ⊢; rw [k1]; exact hk
  · intro x hx
    rw [g0 x hx]
    by_cases e : x = b
    · rw [if_pos e, g1]; simp [e]
    · rw [if_neg e, h.mrk x hx]; simp [e]

/-- What is cut is gone, the others keep their order. -/
theorem RingAt.cut {l1 l2 : List Nat} (h : RingAt c zs (l1 ++ b :: l2)) (hm : c.May) (hz : zs.length = c.size) : RingAt c (ringCutZ c b zs) (l1 ++ l2) := by
  have hs := hm.size
  have hb := h.lt b (by simp)
  have g : ∀ i, i < c.size → nth (ringCutZ c b zs) i = ringCutN c b zs i := fun i hi => ofN_nth _ (by omega)
  have hR : ∀ (x u r : Nat), r < 24 → ¬ adr c x u = r := fun x u r hr => adr_reg' hr
  obtain ⟨hp, hq⟩ := h.split
  have g0 : ∀ x, x < c.N → nth (ringCutZ c b zs) (adr c x 0) = if x = b then nth zs (adr c b 0) - 64 else nth zs (adr c x 0) := fun x hx => by
    rw [g _ (adr_le hm hx (by omega))]
    unfold ringCutN
    simp [hR, adr_i hm]
  have g6 : ∀ x, x < c.N → nth (ringCutZ c b zs) (adr c x 6) = if x = b then 0 else if fstI l2 ≠ 0 ∧ x = (fstI l2 - 1).toNat then lstI l1 else nth zs (adr c x 6) := fun x hx => by
    rw [g _ (adr_le hm hx (by omega))]
    unfold ringCutN
    rw [hp, hq]
    simp [hR, adr_i hm]
  have g7 : ∀ x, x < c.N → nth (ringCutZ c b zs) (adr c x 7) = if x = b then 0 else if lstI l1 ≠ 0 ∧ x = (lstI l1 - 1).toNat then fstI l2 else nth zs (adr c x 7) := fun x hx => by
    rw [g _ (adr_le hm hx (by omega))]
    unfold ringCutN
    rw [hp, hq]
    simp [hR, adr_i hm]
  have ht := h.tok b hb
  have hg1 := (h.mrk b hb).2 (by simp)
  obtain ⟨t1, _, _, k1, _, _, _, _, g1, _⟩ := ht.ring0 (h.hd b (by simp)) hg1
  have hnd := h.nd
  rw [List.nodup_append] at hnd
  obtain ⟨n1, n2, n3⟩ := hnd
  obtain ⟨n4, n5⟩ := List.nodup_cons.1 n2
  have hb1 : b ∉ l1 := fun hx => n3 b hx b (by simp) rfl
  have n6 : ∀ x, x ∈ l1 → x ∉ l2 := fun x hx hy => n3 x hx x (by simp [hy]) rfl
  have hmem : ∀ x, x ∈ l1 ++ l2 → x ∈ l1 ++ b :: l2 := fun x hx => by
    rcases List.mem_append.1 hx with hx | hx
    · simp [hx]
    · simp [hx]
  have hne : ∀ x, x ∈ l1 ++ l2 → x ≠ b := fun x hx e => by
    rcases List.mem_append.1 hx with hx | hx
    · exact hb1 (by rw [← e]; exact hx)
    · exact n4 (by rw [← e]; exact hx)
  obtain ⟨s1, s2⟩ := Seg_append.1 h.seg
  obtain ⟨s3, s4, s5⟩ := s2
  have hf2 : ∀ x, fstI l2 ≠ 0 ∧ x = (fstI l2 - 1).toNat → x ∈ l2 := by
    rintro x ⟨h1, h2⟩
    cases l2 with
    | nil => exact absurd rfl h1
    | cons y t => have : fstI (y :: t) = (y : Int) + 1 := rfl
                  rw [this] at h2
                  have : x = y := by omega
                  rw [this]; simp
  have hl1 : ∀ x, lstI l1 ≠ 0 ∧ x = (lstI l1 - 1).toNat → x ∈ l1 := by
    rintro x ⟨h1, h2⟩
    obtain ⟨y, hy, he⟩ := lstI_mem l1 (fun e => h1 (by rw [e]; rfl))
    rw [he] at h2
    have : x = y := by omega
    rw [this]; exact hy
  refine ⟨?_, ?_, ?_, ?_, ?_, ?_, ?_, ?_, ?_⟩
  · rw [g _ (by omega)]; unfold ringCutN; rw [if_pos rfl, hp, hq, h.r7]
    cases l1 with
    | nil => rfl
    | cons x t => rw [if_neg (fun e => absurd (lstI_zero e) (by simp))]; rfl
  · rw [g _ (by omega)]; unfold ringCutN; rw [if_neg (by omega), if_pos rfl, hp, hq, h.r8, ← lstD_0, ← lstD_0, ← lstD_0, lstD_append, lstD_append]
    cases l2 with
    | nil => rfl
    | cons y t => rw [if_neg (show ¬ (fstI (y :: t) = 0) from fun e => absurd (show ((y : Int) + 1) = 0 from e) (by omega))]; rfl
  · rw [g _ (by omega)]; unfold ringCutN; rw [if_neg (by omega), if_neg (by omega), if_pos rfl, h.r9]; simp; omega
  · intro x hx; exact h.lt x (hmem x hx)
  · rw [List.nodup_append]
    exact ⟨n1, n5, fun x hx y hy e => n6 x hx (by rw [e]; exact hy)⟩
  · rw [Seg_append]
    constructor
    · rw [fstD_0]
      rcases List.eq_nil_or_concat l1 with rfl | ⟨t, x, rfl⟩
      · trivial
      · rw [List.concat_eq_append] at *
        have hx := h.lt x (by simp)
        have hxb := hne x (by simp)
        have hl : lstI (t ++ [x]) = (x : Int) + 1 := lstI_snoc t x
        have hnt := List.nodup_append.1 n1
        rw [Seg_append] at s1 ⊢
        obtain ⟨u1, u2, u3, _⟩ := s1
        refine ⟨u1.congr (fun y hy => ?_), ?_, ?_, trivial⟩
        · have hyN := h.lt y (by simp [hy])
          have hyb := hne y (by simp [hy])
          have hyx : y ≠ x := fun e => hnt.2.2 y hy x (by simp) e
          rw [g6 y hyN, if_neg hyb, if_neg (fun e => n6 y (by simp [hy]) (hf2 y e)), g7 y hyN, if_neg hyb, hl, if_neg (by omega)]
          exact ⟨rfl, rfl⟩
        · rw [g6 x hx, if_neg hxb, if_neg (fun e => n6 x (by simp) (hf2 x e))]; exact u2
        · rw [g7 x hx, if_neg hxb, hl, if_pos ⟨by omega, by omega⟩]; rfl
    · cases l2 with
      | nil => trivial
      | cons y t =>
        have hy := h.lt y (by simp)
        have hyb := hne y (by simp)
        have hy1 : y ∉ l1 := fun e => n6 y e (by simp)
        obtain ⟨v1, v2, v3⟩ := s5
        have hnt := List.nodup_cons.1 n5
        have hf : fstI (y :: t) = (y : Int) + 1 := rfl
        refine ⟨?_, ?_, v3.congr (fun x hx => ?_)⟩
        · rw [g6 y hy, if_neg hyb, hf, if_pos ⟨by omega, by omega⟩, lstD_0]
        · rw [g7 y hy, if_neg hyb, if_neg (fun e => hy1 (hl1 y e))]; exact v2
        · have hxN := h.lt x (by simp [hx])
          have hxb := hne x (by simp [hx])
          have hxy : x ≠ y := fun e => hnt.1 (by rw [← e]; exact hx)
          rw [g6 x hxN, if_neg hxb, hf, if_neg (by omega), g7 x hxN, if_neg hxb, if_neg (fun e => n6 x (hl1 x e) (by simp [hx]))]
          exact ⟨rfl, rfl⟩
  · intro x hx
    rw [g0 x hx]
    by_cases e : x = b
    · rw [if_pos e]; exact t1
    · rw [if_neg e]; exact h.tok x hx
  · intro x hx
    rw [g0 x (h.lt x (hmem x hx)), if_neg (hne x hx)]; exact h.hd x (hmem x hx)
  · intro x hx
    rw [g0 x hx]
    by_cases e : x = b
    · rw [if_pos e, g1, e]
      exact ⟨fun h => absurd h (by decide), fun h => absurd rfl (hne b h)⟩
    · rw [if_neg e, h.mrk x hx]; simp [e]

/-! ### What is left as it was -/
theorem ringAdd_tag (hm : c.May) (hz : zs.length = c.size) {x : Nat} (hx : x < c.N) : nth (ringAddZ c b zs) (adr c x 0) = if x = b then nth zs (adr c b 0) + 64 else nth zs (adr c x 0) := by
  have hR : ∀ (x u r : Nat), r < 24 → ¬ adr c x u = r := fun x u r hr => adr_reg' hr
  rw [show nth (ringAddZ c b zs) (adr c x 0) = ringAddN c b zs (adr c x 0) from ofN_nth _ (by rw [hz]; exact adr_le hm hx (by omega))]
  unfold ringAddN
  simp [hR, adr_i hm]
theorem ringCut_tag (hm : c.May) (hz : zs.length = c.size) {x : Nat} (hx : x < c.N) : nth (ringCutZ c b zs) (adr c x 0) = if x = b then nth zs (adr c b 0) - 64 else nth zs (adr c x 0) := by
  have hR : ∀ (x u r : Nat), r < 24 → ¬ adr c x u = r := fun x u r hr => adr_reg' hr
  rw [show nth (ringCutZ c b zs) (adr c x 0) = ringCutN c b zs (adr c x 0) from ofN_nth _ (by rw [hz]; exact adr_le hm hx (by omega))]
  unfold ringCutN
  simp [hR, adr_i hm]
/-- A word that is none of the ring's: no register of its, no tag or link of b or of a block that stands in it. -/
def RingOut (c : Cf) (l : List Nat) (b i : Nat) : Prop := i ≠ 7 ∧ i ≠ 8 ∧ i ≠ 9 ∧ i ≠ adr c b 0 ∧ ∀ x, (x = b ∨ x ∈ l) → i ≠ adr c x 6 ∧ i ≠ adr c x 7
theorem ringAdd_out (h : RingAt c zs l) (hz : zs.length = c.size) {i : Nat} (hi : RingOut c l b i) : nth (ringAddZ c b zs) i = nth zs i := by
  obtain ⟨h7, h8, h9, h0, hx⟩ := hi
  by_cases hlt : i < zs.length
  · rw [show nth (ringAddZ c b zs) i = ringAddN c b zs i from ofN_nth _ hlt]
    unfold ringAddN
    rw [if_neg h7, if_neg h8, if_neg h9, if_neg h0, if_neg (hx b (Or.inl rfl)).1, if_neg (hx b (Or.inl rfl)).2, if_neg]
    rintro ⟨e1, e2⟩
    rw [h.r8] at e1 e2
    obtain ⟨y, hy, he⟩ := lstI_mem l (fun e => e1 (by rw [e]; rfl))
    rw [he] at e2
    exact (hx y (Or.inr hy)).2 (by rw [e2]; congr 1; omega)
  · rw [nth_out (by rw [ringAddZ_length]; omega), nth_out (by omega)]
theorem ringCut_out {l1 l2 : List Nat} (h : RingAt c zs (l1 ++ b :: l2)) (hz : zs.length = c.size) {i : Nat} (hi : RingOut c (l1 ++ l2) b i) : nth (ringCutZ c b zs) i = nth zs i := by
  obtain ⟨h7, h8, h9, h0, hx⟩ := hi
  obtain ⟨hp, hq⟩ := h.split
  by_cases hlt : i < zs.length
  · rw [show nth (ringCutZ c b zs) i = ringCutN c b zs i from ofN_nth _ hlt]
    unfold ringCutN
    rw [if_neg h7, if_neg h8, if_neg h9, if_neg h0, if_neg (hx b (Or.inl rfl)).1, if_neg (hx b (Or.inl rfl)).2, hp, hq, if_neg, if_neg]
    · rintro ⟨e1, e2⟩
      cases l2 with
      | nil => exact e1 rfl
      | cons y t =>
        have : fstI (y :: t) = (y : Int) + 1 := rfl
        rw [this] at e2
        exact (hx y (Or.inr (by simp))).1 (by rw [e2]; congr 1; omega)
    · rintro ⟨e1, e2⟩
      obtain ⟨y, hy, he⟩ := lstI_mem l1 (fun e => e1 (by rw [e]; rfl))
      rw [he] at e2
      exact (hx y (Or.inr (by simp [hy]))).2 (by rw [e2]; congr 1; omega)
  · rw [nth_out (by rw [ringCutZ_length]; omega), nth_out (by omega)]
theorem ringAdd_own (hm : c.May) (hz : zs.length = c.size) (hb : b < c.N) : nth (ringAddZ c b zs) (adr c b 6) = nth zs 8 ∧ nth (ringAddZ c b zs) (adr c b 7) = 0 := by
  have hR : ∀ (x u r : Nat), r < 24 → ¬ adr c x u = r := fun x u r hr => adr_reg' hr
  rw [show nth (ringAddZ c b zs) (adr c b 6) = ringAddN c b zs (adr c b 6) from ofN_nth _ (by rw [hz]; exact adr_le hm hb (by omega)), show nth (ringAddZ c b zs) (adr c b 7) = ringAddN c b zs (adr c b 7) from ofN_nth _ (by rw [hz]; exact adr_le hm hb (by omega))]
  unfold ringAddN
  simp [hR, adr_i hm]
theorem ringCut_own (hm : c.May) (hz : zs.length = c.size) (hb : b < c.N) : nth (ringCutZ c b zs) (adr c b 6) = 0 ∧ nth (ringCutZ c b zs) (adr c b 7) = 0 := by
  have hR : ∀ (x u r : Nat), r < 24 → ¬ adr c x u = r := fun x u r hr => adr_reg' hr
  rw [show nth (ringCutZ c b zs) (adr c b 6) = ringCutN c b zs (adr c b 6) from ofN_nth _ (by rw [hz]; exact adr_le hm hb (by omega)), show nth (ringCutZ c b zs) (adr c b 7) = ringCutN c b zs (adr c b 7) from ofN_nth _ (by rw [hz]; exact adr_le hm hb (by omega))]
  unfold ringCutN
  simp [hR, adr_i hm]
end

end Go.Proofs.YtljdbaddockfcaaGreat.Pk
