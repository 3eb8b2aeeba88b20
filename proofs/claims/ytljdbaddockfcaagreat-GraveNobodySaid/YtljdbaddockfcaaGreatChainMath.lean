/-
  Chains in a ground's words: what registers and links say, and what is left of them when a block is put or taken. No program in sight.
-/
import Derived.Test.YtljdbaddockfcaaGreatGroFn
namespace Go.Proofs.YtljdbaddockfcaaGreat.Pk
open Go.RowKit
set_option linter.unusedVariables false
set_option linter.unusedSimpArgs false

theorem ext_nth {l l' : List Int} (h : l.length = l'.length) (hn : ∀ i, i < l.length → nth l i = nth l' i) : l = l' := by
  apply List.ext_getElem h
  intro i h1 h2
  have := hn i h1
  unfold nth at this
  simpa [List.getD, h1, h2] using this
/-- A list by its length and its elements. -/
def ofN (n : Nat) (f : Nat → Int) : List Int := (List.range n).map f
theorem ofN_length (n : Nat) (f : Nat → Int) : (ofN n f).length = n := by simp [ofN]
theorem ofN_nth {n : Nat} (f : Nat → Int) {i : Nat} (h : i < n) : nth (ofN n f) i = f i := by unfold nth ofN; simp [List.getD, h]
theorem eq_ofN {l : List Int} {n : Nat} {f : Nat → Int} (h : l.length = n) (hn : ∀ i, i < n → nth l i = f i) : l = ofN n f :=
  ext_nth (by rw [ofN_length, h]) (fun i hi => by rw [ofN_nth f (by omega)]; exact hn i (by omega))
/-- An element of a list one of whose elements is another one. -/
theorem nth_set {zs : List Int} {k : Nat} (hk : k < zs.length) (v : Int) (i : Nat) : nth (zs.set k v) i = if i = k then v else nth zs i := by
  by_cases h : i = k
  · subst h; rw [nth_set_eq hk, if_pos rfl]
  · rw [nth_set_ne (fun e => h e.symm), if_neg h]

/-- Where a block's Link lies. -/
def lnk (c : Cf) (b : Nat) : Nat := 24 + c.R + b * c.W + 5
theorem lnk_lt {c : Cf} {b : Nat} (hm : c.May) (hb : b < c.N) : lnk c b < c.size := wordA_lt' hb (by have := hm.w; omega)
theorem lnk_inj {c : Cf} (hm : c.May) {a b : Nat} (h : lnk c a = lnk c b) : a = b := by
  have hw := hm.w
  unfold lnk at h
  have h2 : a * c.W = b * c.W := by omega
  exact Nat.eq_of_mul_eq_mul_right (by omega) h2
theorem lnk_reg {c : Cf} {b r : Nat} (hr : r < 24) : ¬ r = lnk c b := by unfold lnk; omega
theorem lnk_reg' {c : Cf} {b r : Nat} (hr : r < 24) : ¬ lnk c b = r := by unfold lnk; omega
theorem lnk_word {c : Cf} {b : Nat} (hm : c.May) (hb : b < c.N) : wordA c (b : Int) 5 = some (lnk c b) := by
  have hw := hm.w
  unfold wordA
  rw [bel_mk hb, show bel 5 c.W = true from bel_mk (k := 5) (by omega)]
  rfl
theorem reg_at {r : Nat} (h : r < 24) : regA (r : Int) = some r := by
  unfold regA; rw [bel_mk h]; simp

/-! ### What registers and links say -/
/-- A row's first one's number, and one. -/
def fstI : List Nat → Int
  | [] => 0
  | b :: _ => (b : Int) + 1
/-- A row's last one's number, and one. -/
def lstI : List Nat → Int
  | [] => 0
  | [b] => (b : Int) + 1
  | _ :: b :: t => lstI (b :: t)
theorem fstI_zero {l : List Nat} (h : fstI l = 0) : l = [] := by
  cases l with
  | nil => rfl
  | cons b t => exact absurd (show ((b : Int) + 1) = 0 from h) (by omega)
theorem lstI_zero : ∀ {l : List Nat}, lstI l = 0 → l = []
  | [], _ => rfl
  | [b], h => absurd (show ((b : Int) + 1) = 0 from h) (by omega)
  | _ :: b :: t, h => absurd (lstI_zero (l := b :: t) h) (by simp)
theorem lstI_snoc : ∀ (l : List Nat) (b : Nat), lstI (l ++ [b]) = (b : Int) + 1
  | [], b => rfl
  | [a], b => rfl
  | a :: a' :: t, b => lstI_snoc (a' :: t) b
theorem lstI_mem : ∀ (l : List Nat), l ≠ [] → ∃ b, b ∈ l ∧ lstI l = (b : Int) + 1
  | [], h => absurd rfl h
  | [b], _ => ⟨b, by simp, rfl⟩
  | a :: b :: t, _ => by
    obtain ⟨x, hx, he⟩ := lstI_mem (b :: t) (by simp)
    exact ⟨x, by simp at hx ⊢; exact Or.inr hx, he⟩
theorem fstI_snoc (l : List Nat) (b : Nat) : fstI (l ++ [b]) = if l = [] then (b : Int) + 1 else fstI l := by
  cases l with
  | nil => rfl
  | cons a t => rfl
/-- Each block's Link says who is behind it. -/
def Links (c : Cf) (zs : List Int) : List Nat → Prop
  | [] => True
  | b :: t => nth zs (lnk c b) = fstI t ∧ Links c zs t
theorem Links.congr {c : Cf} {zs zs' : List Int} : ∀ {l : List Nat}, Links c zs l → (∀ b, b ∈ l → nth zs' (lnk c b) = nth zs (lnk c b)) → Links c zs' l
  | [], _, _ => trivial
  | b :: t, h, hc => ⟨by rw [hc b (by simp)]; exact h.1, Links.congr h.2 (fun x hx => hc x (by simp [hx]))⟩
theorem Links.snoc {c : Cf} {zs zs' : List Int} {b : Nat} (hb : nth zs' (lnk c b) = 0) : ∀ {l : List Nat}, Links c zs l → l.Nodup → (∀ a, a ∈ l → nth zs' (lnk c a) = if lstI l = (a : Int) + 1 then (b : Int) + 1 else nth zs (lnk c a)) → Links c zs' (l ++ [b])
  | [], _, _, _ => ⟨hb, trivial⟩
  | [a], h, _, hc => ⟨by rw [hc a (by simp), if_pos (show lstI [a] = (a : Int) + 1 from rfl)]; rfl, hb, trivial⟩
  | a :: a' :: t, h, hn, hc => by
    refine ⟨?_, Links.snoc hb (l := a' :: t) h.2 (List.nodup_cons.1 hn).2 (fun x hx => hc x (List.mem_cons_of_mem _ hx))⟩
    have hne : lstI (a :: a' :: t) ≠ (a : Int) + 1 := by
      intro e
      obtain ⟨x, hx, he⟩ := lstI_mem (a' :: t) (by simp)
      have : x = a := by have : lstI (a :: a' :: t) = (x : Int) + 1 := he; omega
      subst this
      exact (List.nodup_cons.1 hn).1 hx
    rw [hc a (by simp), if_neg hne]
    exact h.1
/-- A chain in a ground's words. -/
structure ChainAt (c : Cf) (zs : List Int) (k : Nat) (l : List Nat) : Prop where
  r0 : nth zs (3 * k) = fstI l
  r1 : nth zs (3 * k + 1) = lstI l
  r2 : nth zs (3 * k + 2) = (l.length : Int)
  lt : ∀ b, b ∈ l → b < c.N
  nd : l.Nodup
  ln : Links c zs l
theorem ChainAt.fst {c : Cf} {zs : List Int} {k b : Nat} {t : List Nat} (h : ChainAt c zs k (b :: t)) : nth zs (3 * k) = (b : Int) + 1 ∧ nth zs (lnk c b) = fstI t := ⟨h.r0, h.ln.1⟩
/-- A chain's length is below the number of blocks. -/
theorem nodup_len : ∀ {N : Nat} {l : List Nat}, l.Nodup → (∀ b, b ∈ l → b < N) → l.length ≤ N
  | 0, [], _, _ => Nat.le_refl _
  | 0, b :: t, _, hl => absurd (hl b (by simp)) (by omega)
  | N + 1, l, hn, hl => by
    by_cases h : N ∈ l
    · have h1 := nodup_len (N := N) (l := l.erase N) (hn.erase N) (fun b hb => by
        have h2 := (hn.mem_erase_iff).1 hb
        have := hl b h2.2
        have := h2.1
        omega)
      rw [List.length_erase_of_mem h] at h1
      omega
    · have h1 := nodup_len (N := N) (l := l) hn (fun b hb => by
        have := hl b hb
        have : b ≠ N := fun e => h (by rw [← e]; exact hb)
        omega)
      omega
/-- What is set elsewhere changes no chain. -/
theorem ChainAt.congr {c : Cf} {zs zs' : List Int} {k : Nat} {l : List Nat} (h : ChainAt c zs k l) (h0 : nth zs' (3 * k) = nth zs (3 * k)) (h1 : nth zs' (3 * k + 1) = nth zs (3 * k + 1)) (h2 : nth zs' (3 * k + 2) = nth zs (3 * k + 2))
    (hc : ∀ b, b ∈ l → nth zs' (lnk c b) = nth zs (lnk c b)) : ChainAt c zs' k l :=
  ⟨h0.trans h.r0, h1.trans h.r1, h2.trans h.r2, h.lt, h.nd, h.ln.congr hc⟩

/-! ### The words behind each call -/
def pushN (c : Cf) (k b : Nat) (zs : List Int) (i : Nat) : Int :=
  if i = 3 * k + 2 then nth zs (3 * k + 2) + 1 else if i = 3 * k then (b : Int) + 1 else if i = 3 * k + 1 then (if nth zs (3 * k) = 0 then (b : Int) + 1 else nth zs (3 * k + 1)) else if i = lnk c b then nth zs (3 * k) else nth zs i
def addN (c : Cf) (k b : Nat) (zs : List Int) (i : Nat) : Int :=
  if i = 3 * k + 2 then nth zs (3 * k + 2) + 1 else if i = 3 * k then (if nth zs (3 * k + 1) = 0 then (b : Int) + 1 else nth zs (3 * k)) else if i = 3 * k + 1 then (b : Int) + 1 else if i = lnk c b then 0
  else if nth zs (3 * k + 1) ≠ 0 ∧ i = lnk c (nth zs (3 * k + 1) - 1).toNat then (b : Int) + 1 else nth zs i
def takeN (c : Cf) (k b : Nat) (zs : List Int) (i : Nat) : Int :=
  if i = 3 * k + 2 then nth zs (3 * k + 2) - 1 else if i = 3 * k then nth zs (lnk c b) else if i = 3 * k + 1 then (if nth zs (lnk c b) = 0 then 0 else nth zs (3 * k + 1)) else if i = lnk c b then 0 else nth zs i
def pushZ (c : Cf) (k b : Nat) (zs : List Int) : List Int := ofN zs.length (pushN c k b zs)
def addZ (c : Cf) (k b : Nat) (zs : List Int) : List Int := ofN zs.length (addN c k b zs)
def takeZ (c : Cf) (k b : Nat) (zs : List Int) : List Int := ofN zs.length (takeN c k b zs)
theorem pushZ_length (c : Cf) (k b : Nat) (zs : List Int) : (pushZ c k b zs).length = zs.length := ofN_length _ _
theorem addZ_length (c : Cf) (k b : Nat) (zs : List Int) : (addZ c k b zs).length = zs.length := ofN_length _ _
theorem takeZ_length (c : Cf) (k b : Nat) (zs : List Int) : (takeZ c k b zs).length = zs.length := ofN_length _ _

section
variable {c : Cf} {zs : List Int} {k b : Nat} {l : List Nat}
/-- What is put ahead stands ahead. -/
theorem ChainAt.push (h : ChainAt c zs k l) (hm : c.May) (hz : zs.length = c.size) (hk : k < 2) (hb : b < c.N) (hn : b ∉ l) : ChainAt c (pushZ c k b zs) k (b :: l) := by
  have hs := hm.size
  have g : ∀ i, i < c.size → nth (pushZ c k b zs) i = pushN c k b zs i := fun i hi => ofN_nth _ (by omega)
  have gl : ∀ x, x < c.N → nth (pushZ c k b zs) (lnk c x) = if x = b then nth zs (3 * k) else nth zs (lnk c x) := fun x hx => by
    rw [g _ (lnk_lt hm hx)]
    unfold pushN
    rw [if_neg (lnk_reg' (by omega)), if_neg (lnk_reg' (by omega)), if_neg (lnk_reg' (by omega))]
    by_cases e : x = b
    · subst e; rw [if_pos rfl, if_pos rfl]
    · rw [if_neg (fun h => e (lnk_inj hm h)), if_neg e]
  refine ⟨?_, ?_, ?_, ?_, List.nodup_cons.2 ⟨hn, h.nd⟩, ?_, ?_⟩
  · rw [g _ (by omega)]; unfold pushN; rw [if_neg (by omega), if_pos rfl]; rfl
  · rw [g _ (by omega)]; unfold pushN; rw [if_neg (by omega), if_neg (by omega), if_pos rfl, h.r0, h.r1]
    cases l with
    | nil => rfl
    | cons a t => rw [if_neg (show ¬ (fstI (a :: t) = 0) from fun e => absurd (show ((a : Int) + 1) = 0 from e) (by omega))]; rfl
  · rw [g _ (by omega)]; unfold pushN; rw [if_pos rfl, h.r2]; simp
  · intro x hx
    rcases List.mem_cons.1 hx with rfl | hx
    · exact hb
    · exact h.lt x hx
  · rw [gl b hb, if_pos rfl]; exact h.r0
  · exact h.ln.congr (fun x hx => by rw [gl x (h.lt x hx), if_neg (fun e : x = b => hn (by rw [← e]; exact hx))])
/-- What is put behind stands behind. -/
theorem ChainAt.add (h : ChainAt c zs k l) (hm : c.May) (hz : zs.length = c.size) (hk : k < 2) (hb : b < c.N) (hn : b ∉ l) : ChainAt c (addZ c k b zs) k (l ++ [b]) := by
  have hs := hm.size
  have g : ∀ i, i < c.size → nth (addZ c k b zs) i = addN c k b zs i := fun i hi => ofN_nth _ (by omega)
  have gl : ∀ x, x < c.N → x ≠ b → nth (addZ c k b zs) (lnk c x) = if lstI l = (x : Int) + 1 then (b : Int) + 1 else nth zs (lnk c x) := fun x hx e => by
    rw [g _ (lnk_lt hm hx)]
    unfold addN
    rw [if_neg (lnk_reg' (by omega)), if_neg (lnk_reg' (by omega)), if_neg (lnk_reg' (by omega)), if_neg (fun h => e (lnk_inj hm h)), h.r1]
    by_cases e2 : lstI l = (x : Int) + 1
    · rw [if_pos e2, if_pos ⟨by omega, by rw [e2]; congr 1; omega⟩]
    · rw [if_neg e2, if_neg]
      rintro ⟨h1, h2⟩
      have h3 := lnk_inj hm h2
      obtain ⟨y, _, hy⟩ := lstI_mem l (fun h => h1 (by rw [h]; rfl))
      rw [hy] at h3
      exact e2 (by rw [hy]; omega)
  have gb : nth (addZ c k b zs) (lnk c b) = 0 := by
    rw [g _ (lnk_lt hm hb)]
    unfold addN
    rw [if_neg (lnk_reg' (by omega)), if_neg (lnk_reg' (by omega)), if_neg (lnk_reg' (by omega)), if_pos rfl]
  refine ⟨?_, ?_, ?_, ?_, ?_, ?_⟩
  · rw [g _ (by omega)]; unfold addN; rw [if_neg (by omega), if_pos rfl, h.r1, h.r0, fstI_snoc]
    by_cases e : l = []
    · subst e; rfl
    · rw [if_neg (fun h => e (lstI_zero h)), if_neg e]
  · rw [g _ (by omega)]; unfold addN; rw [if_neg (by omega), if_neg (by omega), if_pos rfl, lstI_snoc]
  · rw [g _ (by omega)]; unfold addN; rw [if_pos rfl, h.r2]; simp
  · intro x hx
    rcases List.mem_append.1 hx with hx | hx
    · exact h.lt x hx
    · simp at hx; subst hx; exact hb
  · rw [List.nodup_append]
    exact ⟨h.nd, by simp, fun x hx y hy => by simp at hy; subst hy; exact fun e => hn (by rw [← e]; exact hx)⟩
  · exact Links.snoc gb h.ln h.nd (fun x hx => gl x (h.lt x hx) (fun e => hn (by rw [← e]; exact hx)))
/-- What is taken is gone. -/
theorem ChainAt.take (h : ChainAt c zs k (b :: l)) (hm : c.May) (hz : zs.length = c.size) (hk : k < 2) : ChainAt c (takeZ c k b zs) k l ∧ nth (takeZ c k b zs) (lnk c b) = 0 := by
  have hs := hm.size
  have hb := h.lt b (by simp)
  have hn := (List.nodup_cons.1 h.nd).1
  have hl := h.ln.1
  have g : ∀ i, i < c.size → nth (takeZ c k b zs) i = takeN c k b zs i := fun i hi => ofN_nth _ (by omega)
  have gl : ∀ x, x < c.N → nth (takeZ c k b zs) (lnk c x) = if x = b then 0 else nth zs (lnk c x) := fun x hx => by
    rw [g _ (lnk_lt hm hx)]
    unfold takeN
    rw [if_neg (lnk_reg' (by omega)), if_neg (lnk_reg' (by omega)), if_neg (lnk_reg' (by omega))]
    by_cases e : x = b
    · subst e; rw [if_pos rfl, if_pos rfl]
    · rw [if_neg (fun h => e (lnk_inj hm h)), if_neg e]
  refine ⟨⟨?_, ?_, ?_, fun x hx => h.lt x (by simp [hx]), (List.nodup_cons.1 h.nd).2, ?_⟩, by rw [gl b hb, if_pos rfl]⟩
  · rw [g _ (by omega)]; unfold takeN; rw [if_neg (by omega), if_pos rfl]; exact hl
  · rw [g _ (by omega)]; unfold takeN; rw [if_neg (by omega), if_neg (by omega), if_pos rfl, hl, h.r1]
    cases l with
    | nil => rfl
    | cons a t => rw [if_neg (show ¬ (fstI (a :: t) = 0) from fun e => absurd (show ((a : Int) + 1) = 0 from e) (by omega))]; rfl
  · rw [g _ (by omega)]; unfold takeN; rw [if_pos rfl, h.r2]; simp
  · exact h.ln.2.congr (fun x hx => by rw [gl x (h.lt x (by simp [hx])), if_neg (fun e : x = b => hn (by rw [← e]; exact hx))])

/-! ### The other chain stays as it is -/
theorem ChainAt.push_other {k' : Nat} {l' : List Nat} (h : ChainAt c zs k' l') (hm : c.May) (hz : zs.length = c.size) (hk : k < 2) (hk' : k' < 2) (hne : k' ≠ k) (hn : b ∉ l') : ChainAt c (pushZ c k b zs) k' l' := by
  have hs := hm.size
  have g : ∀ i, i < c.size → nth (pushZ c k b zs) i = pushN c k b zs i := fun i hi => ofN_nth _ (by omega)
  refine h.congr ?_ ?_ ?_ ?_
  · rw [g _ (by omega)]; unfold pushN; rw [if_neg (by omega), if_neg (by omega), if_neg (by omega), if_neg (lnk_reg (by omega))]
  · rw [g _ (by omega)]; unfold pushN; rw [if_neg (by omega), if_neg (by omega), if_neg (by omega), if_neg (lnk_reg (by omega))]
  · rw [g _ (by omega)]; unfold pushN; rw [if_neg (by omega), if_neg (by omega), if_neg (by omega), if_neg (lnk_reg (by omega))]
  · intro x hx
    rw [g _ (lnk_lt hm (h.lt x hx))]
    unfold pushN
    rw [if_neg (lnk_reg' (by omega)), if_neg (lnk_reg' (by omega)), if_neg (lnk_reg' (by omega)), if_neg (fun e => hn (by have := lnk_inj hm e; rw [← this]; exact hx))]
theorem ChainAt.add_other {k' : Nat} {l' : List Nat} (h : ChainAt c zs k' l') (ho : ChainAt c zs k l) (hm : c.May) (hz : zs.length = c.size) (hk : k < 2) (hk' : k' < 2) (hne : k' ≠ k) (hn : b ∉ l') (hd : ∀ x, x ∈ l' → x ∉ l) : ChainAt c (addZ c k b zs) k' l' := by
  have hs := hm.size
  have g : ∀ i, i < c.size → nth (addZ c k b zs) i = addN c k b zs i := fun i hi => ofN_nth _ (by omega)
  refine h.congr ?_ ?_ ?_ ?_
  · rw [g _ (by omega)]; unfold addN; rw [if_neg (by omega), if_neg (by omega), if_neg (by omega), if_neg (lnk_reg (by omega)), if_neg (fun h => lnk_reg (by omega) h.2)]
  · rw [g _ (by omega)]; unfold addN; rw [if_neg (by omega), if_neg (by omega), if_neg (by omega), if_neg (lnk_reg (by omega)), if_neg (fun h => lnk_reg (by omega) h.2)]
  · rw [g _ (by omega)]; unfold addN; rw [if_neg (by omega), if_neg (by omega), if_neg (by omega), if_neg (lnk_reg (by omega)), if_neg (fun h => lnk_reg (by omega) h.2)]
  · intro x hx
    rw [g _ (lnk_lt hm (h.lt x hx))]
    unfold addN
    rw [if_neg (lnk_reg' (by omega)), if_neg (lnk_reg' (by omega)), if_neg (lnk_reg' (by omega)), if_neg (fun e => hn (by have := lnk_inj hm e; rw [← this]; exact hx)), ho.r1, if_neg]
    rintro ⟨h1, h2⟩
    obtain ⟨y, hy, he⟩ := lstI_mem l (fun h => h1 (by rw [h]; rfl))
    have h3 := lnk_inj hm h2
    rw [he] at h3
    have : x = y := by omega
    exact hd x hx (by rw [this]; exact hy)
theorem ChainAt.take_other {k' : Nat} {l' : List Nat} (h : ChainAt c zs k' l') (hm : c.May) (hz : zs.length = c.size) (hk : k < 2) (hk' : k' < 2) (hne : k' ≠ k) (hn : b ∉ l') : ChainAt c (takeZ c k b zs) k' l' := by
  have hs := hm.size
  have g : ∀ i, i < c.size → nth (takeZ c k b zs) i = takeN c k b zs i := fun i hi => ofN_nth _ (by omega)
  refine h.congr ?_ ?_ ?_ ?_
  · rw [g _ (by omega)]; unfold takeN; rw [if_neg (by omega), if_neg (by omega), if_neg (by omega), if_neg (lnk_reg (by omega))]
  · rw [g _ (by omega)]; unfold takeN; rw [if_neg (by omega), if_neg (by omega), if_neg (by omega), if_neg (lnk_reg (by omega))]
  · rw [g _ (by omega)]; unfold takeN; rw [if_neg (by omega), if_neg (by omega), if_neg (by omega), if_neg (lnk_reg (by omega))]
  · intro x hx
    rw [g _ (lnk_lt hm (h.lt x hx))]
    unfold takeN
    rw [if_neg (lnk_reg' (by omega)), if_neg (lnk_reg' (by omega)), if_neg (lnk_reg' (by omega)), if_neg (fun e => hn (by have := lnk_inj hm e; rw [← this]; exact hx))]
/-- Words stay numbers of 32 bits. -/
theorem WfZ.ofN {n : Nat} {f : Nat → Int} (h : ∀ i, i < n → 0 ≤ f i ∧ f i ≤ 4294967295) : WfZ (ofN n f) := by
  intro i
  by_cases hi : i < n
  · rw [ofN_nth f hi]; exact h i hi
  · rw [nth_out (by rw [ofN_length]; omega)]; decide
end

/-- A ground whose words are all 0 has empty chains. -/
theorem ChainAt.zero (c : Cf) (q k : Nat) : ChainAt c (List.replicate q 0) k [] := ⟨nth_rep _ _, nth_rep _ _, nth_rep _ _, fun _ h => (List.not_mem_nil h).elim, List.nodup_nil, trivial⟩

end Go.Proofs.YtljdbaddockfcaaGreat.Pk
