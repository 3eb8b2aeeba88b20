/-
  The pool in a ground's words: which blocks are clean, and what is left when one is taken or given. No program in sight.
-/
import Derived.Test.YtljdbaddockfcaaGreatChainMath
import Derived.Test.YtljdbaddockfcaaGreatRingMath
namespace Go.Proofs.YtljdbaddockfcaaGreat.Pk
open Go.RowKit
set_option linter.unusedVariables false
set_option linter.unusedSimpArgs false

/-- The pool stands as the row says, and all that stand there are clean. -/
structure PoolAt (c : Cf) (zs : List Int) (l : List Nat) : Prop where
  ch : ChainAt c zs 0 l
  fr : ∀ b, b ∈ l → nth zs (adr c b 0) = 0
/-- A word of the block b. -/
def inBlk (c : Cf) (b i : Nat) : Prop := adr c b 0 ≤ i ∧ i < adr c b 0 + c.W
theorem inBlk_adr {c : Cf} {b v : Nat} (hv : v < c.W) : inBlk c b (adr c b v) := by unfold inBlk adr; omega
theorem inBlk_of {c : Cf} {b i : Nat} (h : inBlk c b i) : ∃ v, v < c.W ∧ i = adr c b v := ⟨i - adr c b 0, by unfold inBlk at h; omega, by unfold inBlk at h; unfold adr at *; omega⟩
theorem inBlk_reg {c : Cf} {b r : Nat} (hr : r < 24) : ¬ inBlk c b r := by unfold inBlk adr; omega
theorem inBlk_ne {c : Cf} {a b v : Nat} (h : a ≠ b) (hv : v < c.W) : ¬ inBlk c b (adr c a v) := by
  intro hb
  obtain ⟨u, hu, e⟩ := inBlk_of hb
  exact h (adr_inj hv hu e).1
theorem lnk_adr (c : Cf) (b : Nat) : lnk c b = adr c b 5 := rfl
instance (c : Cf) (b i : Nat) : Decidable (inBlk c b i) := by unfold inBlk; infer_instance

/-- Nothing but words of the block b is another one. -/
def BlkOnly (c : Cf) (b : Nat) (zs zs' : List Int) : Prop := zs'.length = zs.length ∧ ∀ i, ¬ inBlk c b i → nth zs' i = nth zs i
theorem BlkOnly.refl (c : Cf) (b : Nat) (zs : List Int) : BlkOnly c b zs zs := ⟨rfl, fun _ _ => rfl⟩
theorem BlkOnly.trans {c : Cf} {b : Nat} {x y z : List Int} (h : BlkOnly c b x y) (k : BlkOnly c b y z) : BlkOnly c b x z := ⟨k.1.trans h.1, fun i hi => (k.2 i hi).trans (h.2 i hi)⟩
theorem BlkOnly.set {c : Cf} {b v : Nat} {zs : List Int} (hv : v < c.W) (x : Int) : BlkOnly c b zs (zs.set (adr c b v) x) :=
  ⟨by simp, fun i hi => nth_set_ne (fun e => hi (by rw [← e]; exact inBlk_adr hv)) x⟩
theorem ChainAt.only {c : Cf} {zs zs' : List Int} {k b : Nat} {l : List Nat} (h : ChainAt c zs k l) (hm : c.May) (hk : k < 2) (hb : b ∉ l) (ho : BlkOnly c b zs zs') : ChainAt c zs' k l := by
  have hw := hm.w
  refine h.congr (ho.2 _ (inBlk_reg (by omega))) (ho.2 _ (inBlk_reg (by omega))) (ho.2 _ (inBlk_reg (by omega))) (fun x hx => ho.2 _ ?_)
  rw [lnk_adr]
  exact inBlk_ne (fun e => hb (by rw [← e]; exact hx)) (by omega)
theorem PoolAt.only {c : Cf} {zs zs' : List Int} {b : Nat} {l : List Nat} (h : PoolAt c zs l) (hm : c.May) (hb : b ∉ l) (ho : BlkOnly c b zs zs') : PoolAt c zs' l := by
  have hw := hm.w
  refine ⟨h.ch.only hm (by omega) hb ho, fun x hx => ?_⟩
  rw [ho.2 _ (inBlk_ne (fun e => hb (by rw [← e]; exact hx)) (by omega))]
  exact h.fr x hx

/-! ### The words behind each call -/
def poolTakeN (c : Cf) (b : Nat) (zs : List Int) (i : Nat) : Int := if inBlk c b i then 0 else takeN c 0 b zs i
def poolTakeZ (c : Cf) (b : Nat) (zs : List Int) : List Int := ofN zs.length (poolTakeN c b zs)
def poolGiveZ (c : Cf) (b : Nat) (zs : List Int) : List Int := pushZ c 0 b (zs.set (adr c b 0) 0)
theorem poolTakeZ_length (c : Cf) (b : Nat) (zs : List Int) : (poolTakeZ c b zs).length = zs.length := ofN_length _ _
theorem poolGiveZ_length (c : Cf) (b : Nat) (zs : List Int) : (poolGiveZ c b zs).length = zs.length := by unfold poolGiveZ; rw [pushZ_length]; simp
/-- A heap's new pool. -/
def Opened (c : Cf) (zs : List Int) : Prop := PoolAt c zs (List.range c.N) ∧ ∀ i, ¬ i < 3 → (∀ b, b < c.N → i ≠ adr c b 5) → nth zs i = 0

section
variable {c : Cf} {zs : List Int} {b : Nat} {l : List Nat}
theorem poolTake_nth (hz : zs.length = c.size) {i : Nat} (hi : i < c.size) : nth (poolTakeZ c b zs) i = if inBlk c b i then 0 else nth (takeZ c 0 b zs) i := by
  rw [show nth (poolTakeZ c b zs) i = poolTakeN c b zs i from ofN_nth _ (by omega), show nth (takeZ c 0 b zs) i = takeN c 0 b zs i from ofN_nth _ (by omega)]
  rfl
theorem poolTake_only (hz : zs.length = c.size) : BlkOnly c b (takeZ c 0 b zs) (poolTakeZ c b zs) := by
  refine ⟨by rw [poolTakeZ_length, takeZ_length], fun i hi => ?_⟩
  by_cases h : i < c.size
  · rw [poolTake_nth hz h, if_neg hi]
  · rw [nth_out (by rw [poolTakeZ_length]; omega), nth_out (by rw [takeZ_length]; omega)]
/-- What is taken is there no more, and wiped. -/
theorem PoolAt.take (h : PoolAt c zs (b :: l)) (hm : c.May) (hz : zs.length = c.size) : PoolAt c (poolTakeZ c b zs) l ∧ ∀ v, v < c.W → nth (poolTakeZ c b zs) (adr c b v) = 0 := by
  have hb := h.ch.lt b (by simp)
  have hn := (List.nodup_cons.1 h.ch.nd).1
  have hw := hm.w
  obtain ⟨h1, _⟩ := h.ch.take hm hz (by omega)
  refine ⟨⟨h1.only hm (by omega) hn (poolTake_only hz), fun x hx => ?_⟩, fun v hv => ?_⟩
  · have hxb : x ≠ b := fun e => hn (by rw [← e]; exact hx)
    have hxN := h.ch.lt x (by simp [hx])
    rw [(poolTake_only hz).2 _ (inBlk_ne hxb (by omega))]
    rw [show nth (takeZ c 0 b zs) (adr c x 0) = takeN c 0 b zs (adr c x 0) from ofN_nth _ (by rw [hz]; exact adr_lt hxN (by omega))]
    unfold takeN
    rw [if_neg (adr_reg' (by omega)), if_neg (adr_reg' (by omega)), if_neg (adr_reg' (by omega)), if_neg (by rw [lnk_adr, adr_i hm (by omega) (by omega)]; omega)]
    exact h.fr x (by simp [hx])
  · rw [poolTake_nth hz (adr_lt hb hv), if_pos (inBlk_adr hv)]
/-- What is left but for the registers of the chain, and the block. -/
theorem poolTake_out (hm : c.May) (hz : zs.length = c.size) {i : Nat} (hi : ¬ inBlk c b i) (h3 : ¬ i < 3) : nth (poolTakeZ c b zs) i = nth zs i := by
  rw [(poolTake_only hz).2 i hi]
  by_cases h : i < c.size
  · rw [show nth (takeZ c 0 b zs) i = takeN c 0 b zs i from ofN_nth _ (by omega)]
    unfold takeN
    have hw := hm.w
    rw [if_neg (by omega), if_neg (by omega), if_neg (by omega), if_neg (fun e => hi (by rw [e, lnk_adr]; exact inBlk_adr (by omega)))]
  · rw [nth_out (by rw [takeZ_length]; omega), nth_out (by omega)]
theorem PoolAt.give (h : PoolAt c zs l) (hm : c.May) (hz : zs.length = c.size) (hb : b < c.N) (hn : b ∉ l) : PoolAt c (poolGiveZ c b zs) (b :: l) ∧ nth (poolGiveZ c b zs) (adr c b 0) = 0 := by
  have hw := hm.w
  have h1 := h.only hm hn (BlkOnly.set (v := 0) (by omega) 0)
  have hz1 : (zs.set (adr c b 0) 0).length = c.size := by simp [hz]
  have g : ∀ x, x < c.N → nth (poolGiveZ c b zs) (adr c x 0) = nth (zs.set (adr c b 0) 0) (adr c x 0) := fun x hx => by
    unfold poolGiveZ
    rw [show nth (pushZ c 0 b (zs.set (adr c b 0) 0)) (adr c x 0) = pushN c 0 b (zs.set (adr c b 0) 0) (adr c x 0) from ofN_nth _ (by rw [hz1]; exact adr_lt hx (by omega))]
    unfold pushN
    rw [if_neg (adr_reg' (by omega)), if_neg (adr_reg' (by omega)), if_neg (adr_reg' (by omega)), if_neg (by rw [lnk_adr, adr_i hm (by omega) (by omega)]; omega)]
  have hb0 : nth (poolGiveZ c b zs) (adr c b 0) = 0 := by rw [g b hb, nth_set_eq (by rw [hz]; exact adr_lt hb (by omega))]
  refine ⟨⟨h1.ch.push hm hz1 (by omega) hb hn, fun x hx => ?_⟩, hb0⟩
  rcases List.mem_cons.1 hx with rfl | hx
  · exact hb0
  · rw [g x (h.ch.lt x hx)]; exact h1.fr x hx
theorem poolGive_out (hm : c.May) (hz : zs.length = c.size) {i : Nat} (hi : i ≠ adr c b 0) (h5 : i ≠ adr c b 5) (h3 : ¬ i < 3) : nth (poolGiveZ c b zs) i = nth zs i := by
  unfold poolGiveZ
  by_cases h : i < c.size
  · rw [show nth (pushZ c 0 b (zs.set (adr c b 0) 0)) i = pushN c 0 b (zs.set (adr c b 0) 0) i from ofN_nth _ (by simp; omega)]
    unfold pushN
    rw [if_neg (by omega), if_neg (by omega), if_neg (by omega), if_neg (show ¬ i = lnk c b from h5), nth_set_ne (fun e => hi e.symm)]
  · rw [nth_out (by rw [pushZ_length]; simp; omega), nth_out (by omega)]
end

end Go.Proofs.YtljdbaddockfcaaGreat.Pk
