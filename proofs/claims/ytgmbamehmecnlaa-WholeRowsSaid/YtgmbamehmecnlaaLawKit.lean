/-
  What the laws over a ground have in common: their configurations, their rows, looks at the meter, arrays of their own.
-/
import Derived.Test.YtgmbamehmecnlaaActs
import Derived.Test.YtgmbamehmecnlaaChains
import Derived.Test.YtgmbamehmecnlaaBase
namespace Go.Proofs.Ytgmbamehmecnlaa.Pk
open Go.RowKit
set_option linter.unusedVariables false
set_option linter.unusedSimpArgs false

/-- A new row of blocks' numbers. -/
def NewNats (l : List Nat) (w : World) (e : Ending) (w' : World) : Prop :=
  ∃ a cap, e = .returned (.slice a l.length cap) ∧ Row w' .i64 a (ints l) ∧ (∀ b off, a = some ⟨b, off, none⟩ → w.heap.size ≤ b) ∧ Below w.heap.size w w'
/-- The law's configuration. -/
def cfR (n : Nat) : Cf := ⟨n, 16, 1, 1⟩
theorem cfR_may {n : Nat} (h0 : 1 ≤ n) (h1 : n ≤ 1000) : (cfR n).May := by constructor <;> simp [cfR] <;> omega
theorem newR (n : Nat) (h0 : 1 ≤ n) (h1 : n ≤ 1000) (w : World) : Calls Try.prog 20 #[.agg #[.int .i64 (n : Int), .int .i64 16, .int .i64 1, .int .i64 1]] w (NewG 94 130 49 w (cfR n)) := gnew_yes (cfR n) w (cfR_may h0 h1)
/-- Kinds. -/
def Kinds (ks : List Int) : Prop := ∀ j, 0 ≤ nth ks j ∧ nth ks j < 256
theorem seewordB (p : Pl) (c : Cf) (s : St) (b v : Nat) (x z y : Int) (w : World) (hG : G w p c s) (hb : b < c.N) (hv : v < c.W) (hx : x = (b : Int)) (hz : z = (v : Int)) (hy : nth s.zs (adr c b v) = y) :
    Calls Try.prog 51 #[.pointer (some ⟨p.a, 0, none⟩), .int .i64 x, .int .i64 z] w fun e w' => e = .returned (.int .u32 y) ∧ Below w.heap.size w w' :=
  (seewordW p c s b v x z y w hG hb hv hx hz hy).mono fun e w' h => ⟨h.1, h.2.new⟩
theorem NewRow.nats {w w' : World} {l : List Nat} {zs : List Int} {e : Ending} (h : NewRow w zs e w') (hz : zs = Pk.ints l) : NewNats l w e w' := by
  subst hz
  obtain ⟨a, cap, h1, h2, h3, h4⟩ := h
  rw [ints_length] at h1
  exact ⟨a, cap, h1, h2, h3, h4⟩
theorem hasB_nat {l : List Nat} {b : Int} (h : hasB (ints l) b = true) : ∃ k : Nat, b = (k : Int) ∧ k ∈ l := by
  unfold hasB ints at h
  rw [List.any_map, List.any_eq_true] at h
  obtain ⟨x, hx, he⟩ := h
  exact ⟨x, by have h2 := he; simp at h2; omega, hx⟩
theorem Kinds.of {ks : List Int} (h : ∀ x, x ∈ ks → 0 ≤ x ∧ x < 256) : Kinds ks := by
  intro j
  by_cases hj : j < ks.length
  · unfold nth; simp [List.getD, hj]; exact h _ (List.getElem_mem hj)
  · rw [nth_out (by omega)]; omega
end Go.Proofs.Ytgmbamehmecnlaa.Pk
