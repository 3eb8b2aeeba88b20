/-
  Layer 11: what is left of a heap's words when an object is made, shed, ended. No program in sight.
-/
import Derived.Test.YtgmbamehmecnlaaObj
namespace Go.Proofs.Ytgmbamehmecnlaa.Pk
open Go.RowKit
set_option linter.unusedVariables false
set_option linter.unusedSimpArgs false

theorem adr_ge (c : Cf) (b v : Nat) : ¬ adr c b v < 3 := by unfold adr; omega
/-! ### Blocks are taken -/
/-- .. one after another. -/
def takenZ (c : Cf) : List Nat → List Int → List Int
  | [], zs => zs
  | b :: l, zs => takenZ c l (poolTakeZ c b zs)
theorem takenZ_snoc (c : Cf) (l : List Nat) (b : Nat) (zs : List Int) : takenZ c (l ++ [b]) zs = poolTakeZ c b (takenZ c l zs) := by
  induction l generalizing zs with
  | nil => rfl
  | cons x t ih => exact ih _
theorem takenZ_length (c : Cf) (l : List Nat) (zs : List Int) : (takenZ c l zs).length = zs.length := by
  induction l generalizing zs with
  | nil => rfl
  | cons x t ih => show (takenZ c t _).length = _; rw [ih, poolTakeZ_length]
theorem PoolAt.taken {c : Cf} {pool : List Nat} : ∀ (l : List Nat) {zs : List Int}, PoolAt c zs (l ++ pool) → c.May → zs.length = c.size → l.Nodup →
    PoolAt c (takenZ c l zs) pool ∧ (∀ b v, b ∈ l → v < c.W → nth (takenZ c l zs) (adr c b v) = 0) ∧ (∀ i, ¬ i < 3 → (∀ b, b ∈ l → ¬ inBlk c b i) → nth (takenZ c l zs) i = nth zs i)
  | [], zs, h, _, _, _ => ⟨h, fun b v hb => absurd hb (by simp), fun i _ _ => rfl⟩
  | x :: t, zs, h, hm, hz, hn => by
    obtain ⟨h1, h2⟩ := PoolAt.take (b := x) (l := t ++ pool) h hm hz
    have hn' := List.nodup_cons.1 hn
    have hz' : (poolTakeZ c x zs).length = c.size := by rw [poolTakeZ_length, hz]
    obtain ⟨a1, a2, a3⟩ := PoolAt.taken t h1 hm hz' hn'.2
    refine ⟨a1, fun b v hb hv => ?_, fun i h3 hi => ?_⟩
    · rcases List.mem_cons.1 hb with rfl | hb
      · rw [show takenZ c (b :: t) zs = takenZ c t (poolTakeZ c b zs) from rfl, a3 _ (adr_ge _ _ _) (fun b' hb' => inBlk_ne (fun e => hn'.1 (by rw [e]; exact hb')) hv)]
        exact h2 v hv
      · exact a2 b v hb hv
    · rw [show takenZ c (x :: t) zs = takenZ c t (poolTakeZ c x zs) from rfl, a3 i h3 (fun b hb => hi b (by simp [hb])), poolTake_out hm hz (hi x (by simp)) h3]

/-! ### A head is written -/
def headZ (c : Cf) (h : Nat) (t p d : Int) (z : List Int) : List Int := ((z.set (adr c h 0) t).set (adr c h 1) p).set (adr c h 2) d
/-- So many of its leaves' names. -/
def nameZ (c : Cf) (h : Nat) (ls : List Nat) : Nat → List Int → List Int
  | 0, z => z
  | k + 1, z => (nameZ c h ls k z).set (adr c h (8 + k)) (((ls.getD k 0 : Nat) : Int) + 1)
/-- So many leaves' tags. -/
def ownZ (c : Cf) (h : Nat) (ls : List Nat) : Nat → List Int → List Int
  | 0, z => z
  | k + 1, z => (ownZ c h ls k z).set (adr c (ls.getD k 0) 0) (3 + 256 * (h : Int))
theorem nameZ_length (c : Cf) (h : Nat) (ls : List Nat) (k : Nat) (z : List Int) : (nameZ c h ls k z).length = z.length := by
  induction k with
  | zero => rfl
  | succ k ih => show ((nameZ c h ls k z).set _ _).length = _; rw [List.length_set, ih]
theorem ownZ_length (c : Cf) (h : Nat) (ls : List Nat) (k : Nat) (z : List Int) : (ownZ c h ls k z).length = z.length := by
  induction k with
  | zero => rfl
  | succ k ih => show ((ownZ c h ls k z).set _ _).length = _; rw [List.length_set, ih]
theorem nameZ_out (c : Cf) (h : Nat) (ls : List Nat) (z : List Int) (i : Nat) : ∀ k, (∀ j, j < k → i ≠ adr c h (8 + j)) → nth (nameZ c h ls k z) i = nth z i
  | 0, _ => rfl
  | k + 1, hi => by
    show nth ((nameZ c h ls k z).set _ _) i = _
    rw [nth_set_ne (fun e => hi k (by omega) e.symm), nameZ_out c h ls z i k (fun j hj => hi j (by omega))]
theorem nameZ_in {c : Cf} {h : Nat} (ls : List Nat) {z : List Int} (hz : z.length = c.size) (hh : h < c.N) : ∀ k, 8 + k ≤ c.W → ∀ j, j < k → nth (nameZ c h ls k z) (adr c h (8 + j)) = ((ls.getD j 0 : Nat) : Int) + 1
  | 0, _, j, hj => absurd hj (by omega)
  | k + 1, hk, j, hj => by
    show nth ((nameZ c h ls k z).set _ _) _ = _
    by_cases e : j = k
    · subst e
      exact nth_set_eq (by rw [nameZ_length, hz]; exact adr_lt hh (by omega)) _
    · rw [nth_set_ne (fun e2 => e (by have := (adr_inj (by omega) (by omega) e2).2; omega)), nameZ_in ls hz hh k (by omega) j (by omega)]
theorem ownZ_out (c : Cf) (h : Nat) (ls : List Nat) (z : List Int) (i : Nat) : ∀ k, (∀ j, j < k → i ≠ adr c (ls.getD j 0) 0) → nth (ownZ c h ls k z) i = nth z i
  | 0, _ => rfl
  | k + 1, hi => by
    show nth ((ownZ c h ls k z).set _ _) i = _
    rw [nth_set_ne (fun e => hi k (by omega) e.symm), ownZ_out c h ls z i k (fun j hj => hi j (by omega))]
theorem ownZ_in {c : Cf} {h : Nat} (ls : List Nat) {z : List Int} (hw : 0 < c.W) (hz : z.length = c.size) (hl : ∀ j, j < ls.length → ls.getD j 0 < c.N) : ∀ k, k ≤ ls.length → ∀ j, j < k → nth (ownZ c h ls k z) (adr c (ls.getD j 0) 0) = 3 + 256 * (h : Int)
  | 0, _, j, hj => absurd hj (by omega)
  | k + 1, hk, j, hj => by
    show nth ((ownZ c h ls k z).set _ _) _ = _
    rw [nth_set (by rw [ownZ_length, hz]; exact adr_lt (hl k (by omega)) hw)]
    by_cases e : adr c (ls.getD j 0) 0 = adr c (ls.getD k 0) 0
    · rw [if_pos e]
    · rw [if_neg e, ownZ_in ls hw hz hl k (by omega) j (by
        by_cases e2 : j = k
        · subst e2; exact absurd rfl e
        · omega)]
theorem headZ_length (c : Cf) (h : Nat) (t p d : Int) (z : List Int) : (headZ c h t p d z).length = z.length := by unfold headZ; simp
theorem headZ_only {c : Cf} (hw : 3 ≤ c.W) (h : Nat) (t p d : Int) (z : List Int) : BlkOnly c h z (headZ c h t p d z) :=
  ((BlkOnly.set (by omega) t).trans (BlkOnly.set (by omega) p)).trans (BlkOnly.set (by omega) d)
theorem nameZ_only {c : Cf} {h : Nat} (ls : List Nat) (z : List Int) : ∀ k, 8 + k ≤ c.W → BlkOnly c h z (nameZ c h ls k z)
  | 0, _ => BlkOnly.refl _ _ _
  | k + 1, hk => (nameZ_only ls z k (by omega)).trans (BlkOnly.set (by omega) _)
theorem PoolAt.owned {c : Cf} {h : Nat} {ls pool : List Nat} {z : List Int} (hP : PoolAt c z pool) (hm : c.May) (hl : ∀ j, j < ls.length → ls.getD j 0 ∉ pool) : ∀ k, k ≤ ls.length → PoolAt c (ownZ c h ls k z) pool
  | 0, _ => hP
  | k + 1, hk => (PoolAt.owned hP hm hl k (by omega)).only hm (hl k (by omega)) (BlkOnly.set (by have := hm.w; omega) _)
theorem headZ_nth {c : Cf} {h : Nat} {z : List Int} (hw : 3 ≤ c.W) (hz : z.length = c.size) (hh : h < c.N) (t p d : Int) :
    nth (headZ c h t p d z) (adr c h 0) = t ∧ nth (headZ c h t p d z) (adr c h 1) = p ∧ nth (headZ c h t p d z) (adr c h 2) = d ∧ ∀ v, 3 ≤ v → v < c.W → nth (headZ c h t p d z) (adr c h v) = nth z (adr c h v) := by
  have l : ∀ v, v < c.W → adr c h v < c.size := fun v hv => adr_lt hh hv
  have n : ∀ u v : Nat, u < c.W → v < c.W → u ≠ v → adr c h u ≠ adr c h v := fun u v hu hv h e => h (adr_inj hu hv e).2
  unfold headZ
  refine ⟨?_, ?_, ?_, fun v h3 hv => ?_⟩
  · rw [nth_set_ne (n 2 0 (by omega) (by omega) (by omega)), nth_set_ne (n 1 0 (by omega) (by omega) (by omega)), nth_set_eq (by rw [hz]; exact l 0 (by omega))]
  · rw [nth_set_ne (n 2 1 (by omega) (by omega) (by omega)), nth_set_eq (by simp [hz]; exact l 1 (by omega))]
  · rw [nth_set_eq (by simp [hz]; exact l 2 (by omega))]
  · rw [nth_set_ne (n 2 v (by omega) hv (by omega)), nth_set_ne (n 1 v (by omega) hv (by omega)), nth_set_ne (n 0 v (by omega) hv (by omega))]

/-! ### An object is made -/
def kindOf (ls : List Nat) : Int := if ls.length = 0 then 1 else 2
def madeZ (c : Cf) (h : Nat) (ls : List Nat) (p d : Int) (zs : List Int) : List Int := ownZ c h ls ls.length (nameZ c h ls ls.length (headZ c h (kindOf ls) p d (takenZ c (h :: ls) zs)))
theorem newOb_leaves (h p d : Nat) (ls : List Nat) : (newOb h p d ls).leaves = ls := by
  unfold Ob.leaves newOb
  rw [List.filterMap_map]
  have : ((fun n => if n = 0 then none else some (n - 1)) ∘ fun x => x + 1) = (some : Nat → Option Nat) := by funext x; simp
  rw [this, List.filterMap_some]
theorem tagOk1 : TagOk 1 := by unfold TagOk RightT uK uC uN uS uD uG uO; decide
theorem tagOk2 : TagOk 2 := by unfold TagOk RightT uK uC uN uS uD uG uO; decide
theorem made_ob {c : Cf} {zs : List Int} {h : Nat} {ls pool : List Nat} {os : List Ob} {p d : Nat} (hm : c.May) (hz : zs.length = c.size) (H : HeapAt c zs (h :: ls ++ pool) os) (he : sizeE c.W p d = 0) (hb : (1 + ls.length : Int) = blocksV c.W p d) :
    MadeOb c zs (madeZ c h ls p d zs) pool os (newOb h p d ls) := by
  have hw := hm.w
  obtain ⟨q0, q1, q2, q3, q4⟩ := sizeE_ok he
  have hlv : (ls.length : Int) = leavesI c.W (p + d) := by unfold blocksV at hb; rw [if_pos he] at hb; omega
  have hL := leaves_bd q0 q1 q4
  have hnd : (h :: ls).Nodup := by
    have := H.nodup
    rw [List.append_assoc] at this
    exact (List.nodup_append.1 this).1
  have hnp : ∀ b, b ∈ h :: ls → b ∉ pool := fun b hb' hp => by
    have := (List.nodup_append.1 H.nodup).1
    exact (List.nodup_append.1 this).2.2 b hb' b hp rfl
  have hN : ∀ b, b ∈ h :: ls → b < c.N := fun b hb' => List.mem_range.1 (H.perm.mem_iff.1 (List.mem_append_left _ (List.mem_append_left _ hb')))
  have hno : ∀ b o, o ∈ os → b ∈ o.blocks → b ∉ h :: ls := fun b o ho hbo hx => H.notPool ho hbo (List.mem_append_left _ hx)
  obtain ⟨D1, D2, D3⟩ := PoolAt.taken (h :: ls) (pool := pool) H.pl hm hz hnd
  have hhl : h ∉ ls := (List.nodup_cons.1 hnd).1
  have hhN := hN h (by simp)
  have hget : ∀ j, j < ls.length → ls.getD j 0 ∈ ls := fun j hj => by simp [List.getD, hj]
  generalize eD : takenZ c (h :: ls) zs = D at *
  have hDl : D.length = c.size := by rw [← eD, takenZ_length, hz]
  generalize eH : headZ c h (kindOf ls) p d D = Hd at *
  have hHl : Hd.length = c.size := by rw [← eH, headZ_length, hDl]
  obtain ⟨b0, b1, b2, b3⟩ := headZ_nth (c := c) (h := h) (z := D) (by omega) hDl hhN (kindOf ls) p d
  rw [eH] at b0 b1 b2 b3
  have hHo : BlkOnly c h D Hd := by rw [← eH]; exact headZ_only (by omega) _ _ _ _ _
  have hk : 8 + ls.length ≤ c.W := by omega
  generalize eN : nameZ c h ls ls.length Hd = Nm at *
  have hNl : Nm.length = c.size := by rw [← eN, nameZ_length, hHl]
  have hNo : BlkOnly c h Hd Nm := by rw [← eN]; exact nameZ_only ls Hd _ hk
  have hlN : ∀ j, j < ls.length → ls.getD j 0 < c.N := fun j hj => hN _ (List.mem_cons_of_mem _ (hget j hj))
  have eM : madeZ c h ls p d zs = ownZ c h ls ls.length Nm := by unfold madeZ; rw [eD, eH, eN]
  rw [eM]
  -- what stands where
  have A : ∀ i, (∀ b, b ∈ h :: ls → ¬ inBlk c b i) → nth (ownZ c h ls ls.length Nm) i = nth D i := fun i hi => by
    rw [ownZ_out c h ls Nm i _ (fun j hj e => hi _ (List.mem_cons_of_mem _ (hget j hj)) (by rw [e]; exact inBlk_adr (by omega))), hNo.2 i (hi h (by simp)), hHo.2 i (hi h (by simp))]
  have Bh : ∀ v, v < c.W → nth (ownZ c h ls ls.length Nm) (adr c h v) = nth Nm (adr c h v) := fun v hv =>
    ownZ_out c h ls Nm _ _ (fun j hj e => hhl (by rw [(adr_inj hv (by omega) e).1]; exact hget j hj))
  have Bl : ∀ v, v < 8 → nth Nm (adr c h v) = nth Hd (adr c h v) := fun v hv => by
    rw [← eN]
    exact nameZ_out c h ls Hd _ _ (fun j hj e => by have := (adr_inj (by omega) (by omega) e).2; omega)
  have Bn : ∀ j, j < ls.length → nth Nm (adr c h (8 + j)) = ((ls.getD j 0 : Nat) : Int) + 1 := fun j hj => by rw [← eN]; exact nameZ_in ls hHl hhN _ hk j hj
  have Bz : ∀ v, 3 ≤ v → v < c.W → nth D (adr c h v) = 0 := fun v h3 hv => D2 h v (by simp) hv
  have C0 : ∀ b, b ∈ ls → nth (ownZ c h ls ls.length Nm) (adr c b 0) = 3 + 256 * (h : Int) := fun b hb' => by
    obtain ⟨j, hj, rfl⟩ := List.getElem_of_mem hb'
    have := ownZ_in (h := h) ls (by omega) hNl hlN ls.length (Nat.le_refl _) j hj
    rw [show ls.getD j 0 = ls[j] by simp [List.getD, hj]] at this
    exact this
  have C1 : ∀ b v, b ∈ ls → 1 ≤ v → v < c.W → nth (ownZ c h ls ls.length Nm) (adr c b v) = 0 := fun b v hb' h1 hv => by
    have hne : b ≠ h := fun e => hhl (by rw [← e]; exact hb')
    rw [ownZ_out c h ls Nm _ _ (fun j hj e => by have := (adr_inj hv (by omega) e).2; omega), hNo.2 _ (inBlk_ne hne hv), hHo.2 _ (inBlk_ne hne hv)]
    exact D2 b v (List.mem_cons_of_mem _ hb') hv
  have hsm : (newOb h p d ls).f ≤ c.W - 8 ↔ ls.length = 0 := by
    show p + d ≤ c.W - 8 ↔ _
    constructor
    · intro hs
      rw [leaves_small (by omega)] at hlv
      omega
    · intro h0
      by_cases hs : p + d ≤ c.W - 8
      · exact hs
      · have := (leaves_big (W := c.W) (n := (p : Int) + d) q0 q1 (by omega) q4).1
        omega
  have hmem : ∀ b, b + 1 ∈ (newOb h p d ls).lv → b ∈ ls := fun b hb' => by
    have := Ob.mem_leaves.2 hb'
    rw [newOb_leaves] at this
    exact this
  have hblk : (newOb h p d ls).blocks = h :: ls := by unfold Ob.blocks; rw [newOb_leaves]; rfl
  have hObj : ObjAt c (ownZ c h ls ls.length Nm) (newOb h p d ls) := by
    refine ⟨hhN, fun b hb' => hN b (List.mem_cons_of_mem _ (hmem b hb')), ?_, ?_, by show ((p + d : Nat) : Int) ≤ _; omega, by show (((ls.map (· + 1)).length : Nat) : Int) = leavesI c.W ((p + d : Nat) : Int); rw [List.length_map, hlv]; congr 1, ?_, ?_, fun j hj => ?_, fun b hb' => C0 b (hmem b hb')⟩
    · show nth _ (adr c h 1) = (p : Int); rw [Bh 1 (by omega), Bl 1 (by omega), b1]
    · show nth _ (adr c h 2) = (d : Int); rw [Bh 2 (by omega), Bl 2 (by omega), b2]
    · show TagOk (nth _ (adr c h 0)); rw [Bh 0 (by omega), Bl 0 (by omega), b0]; unfold kindOf; split; (· exact tagOk1); (· exact tagOk2)
    · show uK (nth _ (adr c h 0)) = _
      rw [Bh 0 (by omega), Bl 0 (by omega), b0]
      unfold kindOf
      by_cases h0 : ls.length = 0
      · rw [if_pos h0, if_pos (hsm.2 h0)]; rfl
      · rw [if_neg h0, if_neg (fun hs => h0 (hsm.1 hs))]; rfl
    · have hj' : j < ls.length := by simpa [newOb] using hj
      show nth _ (adr c h (8 + j)) = _
      rw [Bh _ (by omega), Bn j hj']
      simp [newOb, List.getD, hj']
  refine ⟨⟨?_, fun o ho => ?_, ?_⟩, ?_, fun v h3 h8 => ?_, fun i hi => ?_, fun i h3 hi => ?_⟩
  · refine PoolAt.owned ?_ hm (fun j hj => hnp _ (List.mem_cons_of_mem _ (hget j hj))) _ (Nat.le_refl _)
    exact (D1.only hm (hnp h (by simp)) hHo).only hm (hnp h (by simp)) hNo
  · rcases List.mem_append.1 ho with ho | ho
    · have hA' := H.obs o ho
      have g : ∀ b v, b ∈ o.blocks → v < c.W → nth (ownZ c h ls ls.length Nm) (adr c b v) = nth zs (adr c b v) := fun b v hbo hv => by
        have hne : ∀ x, x ∈ h :: ls → ¬ inBlk c x (adr c b v) := fun x hx => inBlk_ne (fun e => hno b o ho hbo (by rw [e]; exact hx)) hv
        rw [A _ hne, D3 _ (adr_ge _ _ _) hne]
      have hl := hA'.lvW hm
      have hhm : o.h ∈ o.blocks := by unfold Ob.blocks; simp
      refine hA'.congr ?_ ?_ ?_ (fun j hj => ?_) (fun b hb' => ?_)
      · rw [g _ 0 hhm (by omega)]; exact ⟨hA'.tok, rfl⟩
      · exact g _ 1 hhm (by omega)
      · exact g _ 2 hhm (by omega)
      · exact g _ (8 + j) hhm (by omega)
      · exact g _ 0 (by unfold Ob.blocks; exact List.mem_cons_of_mem _ (Ob.mem_leaves.2 hb')) (by omega)
    · rw [List.mem_singleton.1 ho]; exact hObj
  · have hp := H.perm
    rw [List.flatMap_append, List.flatMap_cons, List.flatMap_nil, List.append_nil, hblk, ← List.append_assoc]
    refine List.Perm.trans List.perm_append_comm ?_
    rw [← List.append_assoc]
    exact hp
  · show nth _ (adr c h 0) = _
    rw [Bh 0 (by omega), Bl 0 (by omega), b0]
    unfold kindOf
    by_cases h0 : ls.length = 0
    · rw [if_pos h0, if_pos (hsm.2 h0)]
    · rw [if_neg h0, if_neg (fun hs => h0 (hsm.1 hs))]
  · show nth _ (adr c h v) = 0
    rw [Bh v (by omega), Bl v h8, b3 v h3 (by omega), Bz v h3 (by omega)]
  · by_cases hs : (newOb h p d ls).f ≤ c.W - 8
    · have h0 := hsm.1 hs
      have hi' : 8 + i < c.W := by omega
      unfold fldV fieldA
      rw [fieldP_small hs]
      show nth _ (adr c h (8 + i)) = 0
      have hN0 : nth Nm (adr c h (8 + i)) = nth Hd (adr c h (8 + i)) := by
        rw [← eN]
        exact nameZ_out c h ls Hd _ _ (fun j hj e => by omega)
      rw [Bh _ hi', hN0, b3 _ (by omega) hi', Bz _ (by omega) hi']
    · have hpl := hObj.place hm hs hi
      have hpl' : i / (c.W - 1) < ls.length := by simpa [newOb] using hpl
      have hg : (newOb h p d ls).lv[i / (c.W - 1)]? = some (ls[i / (c.W - 1)] + 1) := by simp [newOb, hpl']
      unfold fldV fieldA
      rw [fieldP_big hs hg]
      have := Nat.mod_lt i (show 0 < c.W - 1 by omega)
      exact C1 _ _ (List.getElem_mem hpl') (by omega) (by omega)
  · rw [hblk] at hi
    rw [A i hi, D3 i h3 hi]

/-! ### A leaf is shed, an object is ended -/
theorem heads_sub : ∀ (os : List Ob), (os.map Ob.h).Sublist (os.flatMap Ob.blocks)
  | [] => by simp
  | x :: t => by
    rw [List.map_cons, List.flatMap_cons]
    unfold Ob.blocks
    exact (List.Sublist.trans (heads_sub t) (List.sublist_append_right _ _)).cons_cons x.h
theorem HeapAt.headsNd {c : Cf} {zs : List Int} {pool : List Nat} {os : List Ob} (h : HeapAt c zs pool os) : (os.map Ob.h).Nodup := h.nodupB.sublist (heads_sub os)
/-- Those beside one have other heads. -/
theorem HeapAt.split {c : Cf} {zs : List Int} {pool : List Nat} {os : List Ob} {o : Ob} (h : HeapAt c zs pool os) (ho : o ∈ os) : ∃ s t, os = s ++ o :: t ∧ (∀ x, x ∈ s → x.h ≠ o.h) ∧ (∀ x, x ∈ t → x.h ≠ o.h) := by
  obtain ⟨s, t, rfl⟩ := List.append_of_mem ho
  have hn := h.headsNd
  rw [List.map_append, List.map_cons, List.nodup_append] at hn
  obtain ⟨n1, n2, n3⟩ := hn
  refine ⟨s, t, rfl, fun x hx e => n3 x.h (List.mem_map_of_mem hx) o.h (by simp) e, fun x hx e => (List.nodup_cons.1 n2).1 (by rw [← e]; exact List.mem_map_of_mem hx)⟩
theorem map_id_of {os : List Ob} {f : Ob → Ob} (h : ∀ x, x ∈ os → f x = x) : os.map f = os := by
  induction os with
  | nil => rfl
  | cons x t ih => rw [List.map_cons, h x (by simp), ih (fun y hy => h y (by simp [hy]))]
theorem filter_id_of {os : List Ob} {f : Ob → Bool} (h : ∀ x, x ∈ os → f x = true) : os.filter f = os := List.filter_eq_self.2 h
theorem shed_leaves {o : Ob} {j b : Nat} (hj : o.lv[j]? = some (b + 1)) : o.leaves.Perm (b :: (shedOb o j).leaves) := by
  unfold Ob.leaves shedOb
  have hlt : j < o.lv.length := (List.getElem?_eq_some_iff.1 hj).1
  have he : o.lv = o.lv.take j ++ (b + 1) :: o.lv.drop (j + 1) := by
    have h1 := (List.take_append_drop j o.lv).symm
    rw [List.drop_eq_getElem_cons hlt] at h1
    rw [(List.getElem?_eq_some_iff.1 hj).2] at h1
    exact h1
  have hs : o.lv.set j 0 = o.lv.take j ++ 0 :: o.lv.drop (j + 1) := List.set_eq_take_append_cons_drop ▸ by rw [if_pos hlt]
  show (o.lv.filterMap _).Perm (b :: (o.lv.set j 0).filterMap _)
  rw [hs]
  conv => lhs; rw [he]
  rw [List.filterMap_append, List.filterMap_append, List.filterMap_cons, List.filterMap_cons]
  simp only [Nat.add_eq_zero_iff, Nat.one_ne_zero, and_false, if_false, if_true, Nat.add_sub_cancel]
  exact List.perm_middle
theorem HeapAt.shed {c : Cf} {zs : List Int} {pool : List Nat} {os : List Ob} {o : Ob} {j b : Nat} (H : HeapAt c zs pool os) (hm : c.May) (hz : zs.length = c.size) (ho : o ∈ os) (hj : o.lv[j]? = some (b + 1)) :
    HeapAt c ((poolGiveZ c b zs).set (adr c o.h (8 + j)) 0) (b :: pool) (shedOs os o j) ∧ ∀ i, ¬ i < 3 → i ≠ adr c o.h (8 + j) → i ≠ adr c b 0 → i ≠ adr c b 5 → nth ((poolGiveZ c b zs).set (adr c o.h (8 + j)) 0) i = nth zs i := by
  have hw := hm.w
  have hA := H.obs o ho
  have hlW := hA.lvW hm
  have hjl : j < o.lv.length := (List.getElem?_eq_some_iff.1 hj).1
  have hbl : b ∈ o.leaves := Ob.mem_leaves.2 (List.mem_of_getElem? hj)
  have hbb : b ∈ o.blocks := by unfold Ob.blocks; exact List.mem_cons_of_mem _ hbl
  have hhb : o.h ∈ o.blocks := by unfold Ob.blocks; simp
  have hne : o.h ≠ b := fun e => (List.nodup_cons.1 (H.ownB ho)).1 (by rw [e]; exact hbl)
  have hbN := H.lt ho hbb
  have hbp := H.notPool ho hbb
  have hzg : (poolGiveZ c b zs).length = c.size := by rw [poolGiveZ_length, hz]
  have out : ∀ i, ¬ i < 3 → i ≠ adr c o.h (8 + j) → i ≠ adr c b 0 → i ≠ adr c b 5 → nth ((poolGiveZ c b zs).set (adr c o.h (8 + j)) 0) i = nth zs i := fun i h3 h1 h2 h5 => by
    rw [nth_set_ne (fun e => h1 e.symm), poolGive_out hm hz h2 h5 h3]
  have outA : ∀ x v, v < c.W → x ≠ b → (x ≠ o.h ∨ v ≠ 8 + j) → nth ((poolGiveZ c b zs).set (adr c o.h (8 + j)) 0) (adr c x v) = nth zs (adr c x v) := fun x v hv hx h1 =>
    out _ (adr_ge _ _ _) (fun e => by
      have := adr_inj hv (by omega) e
      rcases h1 with h1 | h1
      · exact h1 this.1
      · exact h1 this.2) (fun e => hx (adr_inj hv (by omega) e).1) (fun e => hx (adr_inj hv (by omega) e).1)
  obtain ⟨s, t, hst, hs, ht⟩ := H.split ho
  have hos : shedOs os o j = s ++ shedOb o j :: t := by
    unfold shedOs
    rw [hst, List.map_append, List.map_cons, map_id_of (fun x hx => if_neg (hs x hx)), map_id_of (fun x hx => if_neg (ht x hx)), if_pos rfl]
  have old : ∀ x, x ∈ os → x.h ≠ o.h → ObjAt c ((poolGiveZ c b zs).set (adr c o.h (8 + j)) 0) x := fun x hx hxh => by
    have hA' := H.obs x hx
    have hnb : ∀ y, y ∈ x.blocks → y ≠ b ∧ y ≠ o.h := fun y hy => ⟨fun e => hxh (by rw [H.own hx ho hy (by rw [e]; exact hbb)]), fun e => hxh (by rw [H.own hx ho hy (by rw [e]; exact hhb)])⟩
    have hxm : x.h ∈ x.blocks := by unfold Ob.blocks; simp
    have hl := hA'.lvW hm
    have g : ∀ y v, y ∈ x.blocks → v < c.W → _ := fun y v hy hv => outA y v hv (hnb y hy).1 (.inl (hnb y hy).2)
    refine hA'.congr ?_ (g _ 1 hxm (by omega)) (g _ 2 hxm (by omega)) (fun k hk => g _ (8 + k) hxm (by omega)) (fun y hy => g _ 0 (by unfold Ob.blocks; exact List.mem_cons_of_mem _ (Ob.mem_leaves.2 hy)) (by omega))
    rw [g _ 0 hxm (by omega)]; exact ⟨hA'.tok, rfl⟩
  have new : ObjAt c ((poolGiveZ c b zs).set (adr c o.h (8 + j)) 0) (shedOb o j) := by
    have hset : ∀ y, y + 1 ∈ o.lv.set j 0 → y + 1 ∈ o.lv ∧ y ≠ b := fun y hy => by
      obtain ⟨k, hk, e⟩ := List.getElem_of_mem hy
      have hk' : k < o.lv.length := by simpa using hk
      rw [List.getElem_set] at e
      by_cases ekj : j = k
      · rw [if_pos ekj] at e; omega
      · rw [if_neg ekj] at e
        refine ⟨by rw [← e]; exact List.getElem_mem hk', fun eb => ekj ?_⟩
        subst eb
        exact leaf_once (List.nodup_cons.1 (H.ownB ho)).2 hj (List.getElem?_eq_some_iff.2 ⟨hk', e⟩)
    refine ⟨hA.hlt, fun y hy => hA.llt y (hset y hy).1, ?_, ?_, hA.size, by show (((o.lv.set j 0).length : Nat) : Int) = _; rw [List.length_set]; exact hA.lvs, ?_, ?_, fun k hk => ?_, fun y hy => ?_⟩
    · show nth _ (adr c o.h 1) = _; rw [outA o.h 1 (by omega) hne (.inr (by omega))]; exact hA.w1
    · show nth _ (adr c o.h 2) = _; rw [outA o.h 2 (by omega) hne (.inr (by omega))]; exact hA.w2
    · show TagOk (nth _ (adr c o.h 0)); rw [outA o.h 0 (by omega) hne (.inr (by omega))]; exact hA.tok
    · show uK (nth _ (adr c o.h 0)) = _; rw [outA o.h 0 (by omega) hne (.inr (by omega))]; exact hA.kind
    · have hk' : k < o.lv.length := by simpa [shedOb] using hk
      show nth _ (adr c o.h (8 + k)) = (((o.lv.set j 0)[k]'(by simpa using hk') : Nat) : Int)
      rw [List.getElem_set]
      by_cases e : j = k
      · subst e
        rw [if_pos rfl, nth_set_eq (by rw [hzg]; exact adr_lt hA.hlt (by omega))]
        rfl
      · rw [if_neg e, outA o.h (8 + k) (by omega) hne (.inr (by omega))]
        exact hA.own k hk'
    · obtain ⟨y1, y2⟩ := hset y hy
      have hyh : y ≠ o.h := fun e => (List.nodup_cons.1 (H.ownB ho)).1 (by rw [← e]; exact Ob.mem_leaves.2 y1)
      show nth _ (adr c y 0) = _
      rw [outA y 0 (by omega) y2 (.inl hyh)]
      exact hA.leaf y y1
  refine ⟨⟨?_, fun x hx => ?_, ?_⟩, out⟩
  · refine (PoolAt.give H.pl hm hz hbN hbp).1.only hm (b := o.h) ?_ (BlkOnly.set (by omega) 0)
    intro hx
    rcases List.mem_cons.1 hx with e | hx
    · exact hne e
    · exact H.notPool ho hhb hx
  · rw [hos] at hx
    rcases List.mem_append.1 hx with hx | hx
    · exact old x (by rw [hst]; exact List.mem_append_left _ hx) (hs x hx)
    · rcases List.mem_cons.1 hx with rfl | hx
      · exact new
      · exact old x (by rw [hst]; exact List.mem_append_right _ (List.mem_cons_of_mem _ hx)) (ht x hx)
  · have hp := H.perm
    rw [hos]
    rw [hst] at hp
    refine List.Perm.trans ?_ hp
    rw [List.cons_append]
    refine List.Perm.trans List.perm_middle.symm ?_
    refine List.Perm.append_left pool ?_
    rw [List.flatMap_append, List.flatMap_append, List.flatMap_cons, List.flatMap_cons]
    refine List.Perm.trans List.perm_middle.symm ?_
    refine List.Perm.append_left _ ?_
    rw [← List.cons_append]
    refine List.Perm.append_right _ ?_
    show (b :: o.h :: (shedOb o j).leaves).Perm (o.h :: o.leaves)
    exact (List.Perm.swap _ _ _).trans ((shed_leaves hj).symm.cons o.h)
theorem HeapAt.ended {c : Cf} {zs : List Int} {pool : List Nat} {os : List Ob} {o : Ob} (H : HeapAt c zs pool os) (hm : c.May) (hz : zs.length = c.size) (ho : o ∈ os) (hl : o.leaves = []) :
    HeapAt c (poolGiveZ c o.h zs) (o.h :: pool) (os.filter (fun x => x.h != o.h)) ∧ ∀ i, ¬ i < 3 → i ≠ adr c o.h 0 → i ≠ adr c o.h 5 → nth (poolGiveZ c o.h zs) i = nth zs i := by
  have hw := hm.w
  have hhb : o.h ∈ o.blocks := by unfold Ob.blocks; simp
  have hbN := H.lt ho hhb
  have hbp := H.notPool ho hhb
  obtain ⟨s, t, hst, hs, ht⟩ := H.split ho
  have hos : os.filter (fun x => x.h != o.h) = s ++ t := by
    rw [hst, List.filter_append, List.filter_cons, filter_id_of (fun x hx => by simpa using hs x hx), filter_id_of (fun x hx => by simpa using ht x hx)]
    simp
  refine ⟨⟨(PoolAt.give H.pl hm hz hbN hbp).1, fun x hx => ?_, ?_⟩, fun i h3 h0 h5 => poolGive_out hm hz h0 h5 h3⟩
  · obtain ⟨hxo, hxh⟩ := List.mem_filter.1 hx
    have hxh : x.h ≠ o.h := by simpa using hxh
    have hA' := H.obs x hxo
    have hnb : ∀ y, y ∈ x.blocks → y ≠ o.h := fun y hy e => hxh (by rw [H.own hxo ho hy (by rw [e]; exact hhb)])
    have hxm : x.h ∈ x.blocks := by unfold Ob.blocks; simp
    have hl := hA'.lvW hm
    have g : ∀ y v, y ∈ x.blocks → v < c.W → nth (poolGiveZ c o.h zs) (adr c y v) = nth zs (adr c y v) := fun y v hy hv => poolGive_out hm hz (fun e => hnb y hy (adr_inj hv (by omega) e).1) (fun e => hnb y hy (adr_inj hv (by omega) e).1) (adr_ge _ _ _)
    refine hA'.congr ?_ (g _ 1 hxm (by omega)) (g _ 2 hxm (by omega)) (fun k hk => g _ (8 + k) hxm (by omega)) (fun y hy => g _ 0 (by unfold Ob.blocks; exact List.mem_cons_of_mem _ (Ob.mem_leaves.2 hy)) (by omega))
    rw [g _ 0 hxm (by omega)]; exact ⟨hA'.tok, rfl⟩
  · have hp := H.perm
    rw [hos]
    rw [hst] at hp
    refine List.Perm.trans ?_ hp
    rw [List.cons_append]
    refine List.Perm.trans List.perm_middle.symm ?_
    refine List.Perm.append_left pool ?_
    rw [List.flatMap_append, List.flatMap_append, List.flatMap_cons]
    refine List.Perm.trans List.perm_middle.symm ?_
    refine List.Perm.append_left _ ?_
    have e : o.blocks = [o.h] := by unfold Ob.blocks; rw [hl]
    rw [e]
    exact List.Perm.refl _


end Go.Proofs.Ytgmbamehmecnlaa.Pk
