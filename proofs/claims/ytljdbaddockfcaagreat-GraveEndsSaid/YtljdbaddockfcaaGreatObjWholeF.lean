/-
  Layer 11: the law of whole objects, of packages pool and obj that do what they must.
-/
import Derived.Test.YtljdbaddockfcaaGreatChainsEtc
import Derived.Test.YtljdbaddockfcaaGreatRecs
namespace Go.Proofs.YtljdbaddockfcaaGreat.Pk
open Go.RowKit
set_option linter.unusedVariables false
set_option linter.unusedSimpArgs false

theorem own_touch {X : Nat → Prop} {w w' : World} {base : Nat} {e : TypeId} {size : Nat} {v : Value} {n : Nat} {xs : List Value} (h : w.ownsRow base e size v n xs) (t : Touch X w w') (hx : ∀ b, base ≤ b → ¬ X b) : w'.ownsRow base e size v n xs := by
  refine ⟨h.1, ?_⟩
  rcases h.2 with hn | ⟨g, cap, cur, rfl, hbg, hgg, rest⟩
  · exact .inl hn
  · exact .inr ⟨g, cap, cur, rfl, hbg, (t.block g (lt_of_block hgg) (hx g hbg)).trans hgg, rest⟩
theorem osz_of {w : World} {a : Option Addr} {rs : List (List Fld)} (hr : Recs w a [.int .i64, .int .i64] rs) {k : Nat} (hk : k < rs.length) :
    ∃ (b off : Nat) (x y : Int), a = some ⟨b, off, none⟩ ∧ b < w.heap.size ∧ w.cell? ⟨b, off + k * 2, none⟩ = some (.int .i64 x) ∧ w.cell? ⟨b, off + k * 2 + 1, none⟩ = some (.int .i64 y) := by
  obtain ⟨h1, b, off, ha, hb, hc⟩ := hr k rs[k] (by simp [hk])
  generalize rs[k] = r at h1 hc
  have hl : r.length = 2 := by have := congrArg List.length h1; simpa using this
  match r, hl with
  | [f0, f1], _ =>
    simp at h1
    obtain ⟨k0, k1⟩ := h1
    have c0 := hc 0 f0 rfl
    have c1 := hc 1 f1 rfl
    cases f0 <;> simp [Fld.kd] at k0
    cases f1 <;> simp [Fld.kd] at k1
    subst k0 k1
    exact ⟨b, off, _, _, ha, hb, by simpa [Fld.val] using c0.1, by simpa [Fld.val] using c1.1⟩
/-- What the law has made, and remembers. -/
def Whole (os : List Ob) (ms : List Int) : Prop := ms.length = os.length ∧ ∀ x, x ∈ ms → ∃ o, o ∈ os ∧ (o.h : Int) + 1 = x ∧ 0 ∉ o.lv
theorem Whole.more {os : List Ob} {ms : List Int} (h : Whole os ms) (a np nd : Nat) (ls : List Nat) : Whole (os ++ [newOb a np nd ls]) (ms ++ [(a : Int) + 1]) := by
  refine ⟨by simp [h.1], fun x hx => ?_⟩
  rcases List.mem_append.1 hx with hx | hx
  · obtain ⟨o, h1, h2, h3⟩ := h.2 x hx
    exact ⟨o, by simp [h1], h2, h3⟩
  · simp at hx
    exact ⟨newOb a np nd ls, by simp, hx.symm, by simp [newOb]⟩
end Go.Proofs.YtljdbaddockfcaaGreat.Pk
