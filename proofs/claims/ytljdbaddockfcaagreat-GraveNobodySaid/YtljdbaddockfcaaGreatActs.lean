/-
  What a function over a ground does, apart from where the ground lies: from words to words, with so many accesses.
-/
import Derived.Test.YtljdbaddockfcaaGreatGroFn
namespace Go.Proofs.YtljdbaddockfcaaGreat.Pk
open Go.RowKit
set_option linter.unusedVariables false
set_option linter.unusedSimpArgs false

/-- Called with a ground whose words are zs (and these arguments behind it), f returns v; the words are zs' then, and there were so many accesses more, the same wherever the ground lies: at most B. -/
def Acts (c : Cf) (f : FuncId) (args : List Value) (zs : List Int) (B : Nat) (zs' : List Int) (v : Value) : Prop :=
  ∃ d, d ≤ B ∧ ∀ (p : Pl) (m : Nat) (w : World), G w p c ⟨zs, m⟩ → Calls Tryz.prog f (List.toArray (.pointer (some ⟨p.a, 0, none⟩) :: args)) w (GP w p c ⟨zs', m + d⟩ v)
theorem Acts.mono {c : Cf} {f : FuncId} {args : List Value} {zs zs' : List Int} {B B' : Nat} {v : Value} (h : Acts c f args zs B zs' v) (hB : B ≤ B') : Acts c f args zs B' zs' v := by
  obtain ⟨d, hd, h⟩ := h; exact ⟨d, Nat.le_trans hd hB, h⟩
theorem Grd.st_eq {tg ts e : TypeId} {w : World} {p : Pl} {c : Cf} {s : St} (h : Grd tg ts e w p c s) : Grd tg ts e w p c ⟨s.zs, s.m⟩ := h
/-- Words that a ground may have. -/
structure Wz (c : Cf) (zs : List Int) : Prop where
  may : c.May
  len : zs.length = c.size
  wf : WfZ zs
theorem Grd.wz {tg ts e : TypeId} {w : World} {p : Pl} {c : Cf} {s : St} (h : Grd tg ts e w p c s) : Wz c s.zs := ⟨h.may, h.len, h.wf⟩
theorem Wz.ofN {c : Cf} {zs : List Int} (h : Wz c zs) {f : Nat → Int} (hf : ∀ i, i < zs.length → 0 ≤ f i ∧ f i ≤ 4294967295) {q : Nat} (hq : q = zs.length) : Wz c ((List.range q).map f) := by
  subst hq
  refine ⟨h.may, by simp [h.len], ?_⟩
  intro i
  by_cases hi : i < zs.length
  · unfold nth; simp [List.getD, hi]; exact hf i hi
  · rw [nth_out (by simp; omega)]; decide

theorem Grd.ofG_lt {tg ts e : TypeId} {w : World} {p : Pl} {c : Cf} {s : St} (h : Grd tg ts e w p c s) {i : Nat} (hi : ofG p i) : i < w.heap.size := by
  rcases hi with rfl | rfl | rfl
  · exact h.head.lt
  · exact h.st.head.lt
  · exact h.st.body.lt

theorem Blk.drw {w w' : World} {b : Nat} {cs : Array Value} {t : TypeId} (h : Blk w b cs t) (d : Drw w w') : Blk w' b cs t := h.later d.new
/-- A call that only looks, and makes a row of numbers of its own. -/
def NewIntsZ (w : World) (zs : List Int) (e : Ending) (w' : World) : Prop :=
  ∃ a cap, e = .returned (.slice a zs.length cap) ∧ Row w' .i64 a zs ∧ (∀ b off, a = some ⟨b, off, none⟩ → w.heap.size ≤ b) ∧ Below w.heap.size w w'
/-- A call that only looks. -/
def Looks (c : Cf) (f : FuncId) (args : List Value) (zs : List Int) (Q : World → Ending → World → Prop) : Prop :=
  ∀ (p : Pl) (m : Nat) (w : World), G w p c ⟨zs, m⟩ → Calls Tryz.prog f (List.toArray (.pointer (some ⟨p.a, 0, none⟩) :: args)) w (Q w)

end Go.Proofs.YtljdbaddockfcaaGreat.Pk
