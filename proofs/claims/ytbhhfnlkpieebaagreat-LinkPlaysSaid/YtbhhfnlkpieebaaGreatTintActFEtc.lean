/-
  Texts laid together: TintActF, TintAllF.
-/
import Derived.Test.YtbhhfnlkpieebaaGreatTintLikeF
import Derived.RegionTactic
import Derived.Deep.RegionWith
import Derived.Deep.RegionHeld3
namespace Go.Proofs.YtbhhfnlkpieebaaGreat.Pk
open Go.RowKit
set_option linter.unusedVariables false
set_option linter.unusedSimpArgs false
set_option maxRecDepth 100000
def MW (w : World) (p : Pl) (c : Cf) (D : Wd) (m : Nat) (wr : World) : Prop :=
 ∃ zs, G wr p c ⟨zs, m⟩ ∧ aL c zs D ∧ (∀ k, ak p k → w.heap.size ≤ k) ∧ Below w.heap.size w wr
def lV (w : World) (p : Pl) (q lo : Nat) (c : Cf) (D D2 : Wd) (m : Nat) (wr : World) : Prop := MW w p c D m wr ∧ bI wr lo q D2 ∧ (∀ i, lo ≤ i → ¬ nU p i) ∧ w.heap.size ≤ lo
section
variable {w wr w' : World} {p : Pl} {q lo m : Nat} {c : Cf} {D D2 D' : Wd}
theorem lV.st (h : lV w p q lo c D D2 m wr) : oV w p q lo c D D2 wr := by
 obtain ⟨⟨zs, h1, h2, h3, h4⟩, h5⟩ := h
 exact ⟨⟨zs, m, h1, h2, h3, h4⟩, h5⟩
theorem oV.sm (h : oV w p q lo c D D2 wr) : ∃ m, lV w p q lo c D D2 m wr := by
 obtain ⟨⟨zs, m, h1, h2, h3, h4⟩, h5⟩ := h
 exact ⟨m, ⟨zs, h1, h2, h3, h4⟩, h5⟩
theorem lV.later (h : lV w p q lo c D D2 m wr) (hb : Below wr.heap.size wr w') : lV w p q lo c D D2 m w' := by
 obtain ⟨⟨zs, h1, h2, h3, h4⟩, h5, h6⟩ := h
 exact ⟨⟨zs, h1.later hb, h2, h3, ay h4 hb⟩, h5.later hb, h6⟩
theorem lV.drew (h : lV w p q lo c D D2 m wr) : lV w p q lo c D D2 m wr.drew := h.later ⟨rfl, rfl, rfl, Nat.le_refl _, fun _ _ => rfl⟩
theorem lV.does {f : FuncId} {args : List Value} {B : Nat} {v : Value} (h : lV w p q lo c D D2 m wr) (ha : Does c D f args B D' v) :
   Calls Tryz.prog f (List.toArray (.pointer (some ⟨p.a, 0, none⟩) :: args)) wr fun e w' => e = .returned v ∧ (∃ d, d ≤ B ∧ lV w p q lo c D' D2 (m + d) w') ∧ Touch (ak p) wr w' := by
 obtain ⟨⟨zs, hG, hR, hp, hB⟩, h5, h6, h7⟩ := h
 obtain ⟨zs', ⟨d, hd, H⟩, hR'⟩ := ha zs hG.wz hR
 refine (H p m wr hG).mono ?_
 rintro e w' ⟨rfl, hG', hT⟩
 exact ⟨rfl, ⟨d, hd, ⟨zs', hG', hR', hp, hB.trans (hT.below hp hB.size)⟩, h5.touch hT (fun b hb hx => h6 b hb (Or.inr hx)), h6, h7⟩, hT⟩
theorem lV.world {f : FuncId} {args : Array Value} {v : Value} (h : lV w p q lo c D D2 m wr) (ha : Calls Tryz.prog f args wr (eF wr lo q D' v)) :
   Calls Tryz.prog f args wr fun e w' => e = .returned v ∧ lV w p q lo c D D' m w' := by
 obtain ⟨⟨zs, hG, hR, hp, hB⟩, h5, h6, h7⟩ := h
 refine ha.mono ?_
 rintro e w' ⟨rfl, h2, h3⟩
 exact ⟨rfl, ⟨zs, hG.touch h3 (fun i hi hx => h6 i hx hi), hR, hp, hB.trans (h3.below (fun i hi => Nat.le_trans h7 hi) hB.size)⟩, h2, h6, h7⟩
theorem lV.jl (h : lV w p q lo c D D2 m wr) : Calls Tryz.prog 21 #[.pointer (some ⟨p.a, 0, none⟩)] wr fun e w' => e = .returned (.int .u64 (iO m)) ∧ wr = w' := by
 obtain ⟨⟨zs, hG, _⟩, _⟩ := h
 exact Fb p c ⟨zs, m⟩ wr hG
theorem lV.box (h : lV w p q lo c D D2 m wr) : ¬ ak p wr.heap.size := fun hx => by
 obtain ⟨⟨zs, hG, _⟩, _⟩ := h
 have := hG.eO (Or.inr hx)
 omega
theorem bI.Ra (h : bI wr lo q D) (r : Int) : Calls Tryz.prog 79 #[.pointer (some ⟨q, 0, none⟩), .int .i64 r] wr (eF wr lo q (D.done r) (.bool (D.find r).isSome)) := by
 obtain ⟨lab, a, rfl, k⟩ := h
 exact QG k r
theorem bI.Nn (h : bI wr lo q D) (r : Int) (hb : 0 ≤ D.gT r ∧ D.gT r ≤ 1000000) : Calls Tryz.prog 78 #[.pointer (some ⟨q, 0, none⟩), .int .i64 r] wr (eF wr lo q (D.iZ r) (.bool (D.find r).isSome)) := by
 obtain ⟨lab, a, rfl, k⟩ := h
 exact MF k r (by omega) (by omega)
theorem bI.Pq (h : bI wr lo q D) (r : Int) : Calls Tryz.prog 77 #[.pointer (some ⟨q, 0, none⟩), .int .i64 r] wr (eF wr lo q (D.jH r) (.bool (Jp r))) := by
 obtain ⟨lab, a, rfl, k⟩ := h
 exact OO k r
end
section
variable {w wr w' : World} {p : Pl} {q lo m : Nat} {c : Cf} {D D2 D' : Wd}
theorem oV.drew (h : oV w p q lo c D D2 wr) : oV w p q lo c D D2 wr.drew := h.later ⟨rfl, rfl, rfl, Nat.le_refl _, fun _ _ => rfl⟩
theorem bI.Jy (h : bI wr lo q D) (x : Int) : bI (wr.setCell ⟨q, 2, none⟩ (.int .i64 x)) lo q { D with parity := x } ∧ wr.cell? ⟨q, 2, none⟩ = some (.int .i64 D.parity) ∧ wr.frozen? ⟨q, 2, none⟩ = false ∧ q < wr.heap.size := by
 obtain ⟨lab, a, rfl, k⟩ := h
 exact ⟨⟨lab, a, rfl, k.iq (D' := { D with parity := x }) (k := 2) (u := .int .i64 x) rfl rfl rfl rfl rfl rfl rfl⟩, k.c2, k.wb.free 2, k.wb.lt⟩
end
end Go.Proofs.YtbhhfnlkpieebaaGreat.Pk
