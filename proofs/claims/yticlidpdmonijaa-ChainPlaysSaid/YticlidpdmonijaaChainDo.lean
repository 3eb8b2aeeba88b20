/-
  The law's act on a chain.
-/
import Derived.Test.YticlidpdmonijaaChain
import Derived.Deep.RegionHeld3
import Derived.BigQuiet
namespace Go.Proofs.Yticlidpdmonijaa.Pk
open Go.RowKit
set_option linter.unusedVariables false
set_option linter.unusedSimpArgs false

/-- The blocks that a ground's calls and the document's chains may change. -/
def XC (p : Pl) (q : Nat) : Nat → Prop := fun k => k = q ∨ inG p k
/-- A ground and the document's chains beside it. -/
structure Two (w : World) (p : Pl) (c : Cf) (s : St) (q : Nat) (la lb : List Nat) : Prop where
  gr : G w p c s
  ch : Chn (XC p q) w q la lb
  out : ¬ ofG p q
  a0 : ChainAt c s.zs 0 la
  a1 : ChainAt c s.zs 1 lb
  dj : ∀ x, x ∈ la → x ∉ lb
theorem Two.later {w w' : World} {p : Pl} {c : Cf} {s : St} {q : Nat} {la lb : List Nat} (h : Two w p c s q la lb) (hb : Below w.heap.size w w') : Two w' p c s q la lb :=
  ⟨h.gr.later hb, h.ch.later hb, h.out, h.a0, h.a1, h.dj⟩
theorem Two.drew {w : World} {p : Pl} {c : Cf} {s : St} {q : Nat} {la lb : List Nat} (h : Two w p c s q la lb) : Two w.drew p c s q la lb := ⟨h.gr.drew, h.ch.drew, h.out, h.a0, h.a1, h.dj⟩
/-- What an act leaves. -/
def DoPost (w : World) (p : Pl) (c : Cf) (q : Nat) (la lb : List Nat) (e : Ending) (w' : World) : Prop :=
  e = .returned (.bool true) ∧ ∃ s' la' lb', Two w' p c s' q la' lb' ∧ la'.length + lb'.length ≤ la.length + lb.length + 1 ∧ Touch (XC p q) w w'
/-- A new row is apart from all that may change. -/
theorem fresh_out {w : World} {p : Pl} {c : Cf} {s : St} {q : Nat} {la lb : List Nat} (h : Two w p c s q la lb) {a : Option Addr} {zs : List Int} (hf : ∀ b off, a = some ⟨b, off, none⟩ → w.heap.size ≤ b) : RowOut (XC p q) a zs := by
  intro _ b off ha hx
  have h1 := hf b off ha
  rcases hx with rfl | hx | hx
  · have := h.ch.lt; omega
  · have := h.gr.st.head.lt; omega
  · have := h.gr.st.body.lt; omega
theorem fresh_out6 {w : World} {p : Pl} {c : Cf} {s : St} {q : Nat} (hG : G w p c s) (hq : q < w.heap.size) {a : Option Addr} {zs : List Int} (hf : ∀ b off, a = some ⟨b, off, none⟩ → w.heap.size ≤ b) : RowOut (XC p q) a zs := by
  intro _ b off ha hx
  have h1 := hf b off ha
  rcases hx with rfl | hx | hx
  · omega
  · have := hG.st.head.lt; omega
  · have := hG.st.body.lt; omega
/-- A block that an act made is not among those. -/
theorem fresh_not {w : World} {p : Pl} {c : Cf} {s : St} {q : Nat} {la lb : List Nat} (h : Two w p c s q la lb) : ¬ XC p q w.heap.size := by
  rintro (hx | hx | hx)
  · have := h.ch.lt; omega
  · have := h.gr.st.head.lt; omega
  · have := h.gr.st.body.lt; omega
theorem meter_d {m m' : Nat} (h0 : m ≤ m') (h1 : m' ≤ m + 100) : ∃ d : Nat, m' = m + d ∧ d ≤ m' - m ∧ IntKind.u64.wrap (u64m m' - u64m m) = (d : Int) :=
  ⟨m' - m, by omega, Nat.le_refl _, u64m_diff h0 h1⟩

theorem Row.drew1 {w : World} {k : IntKind} {a : Option Addr} {zs : List Int} (h : Row w k a zs) : Row w.drew k a zs := by
  intro i hi
  obtain ⟨b, off, ha, hlt, hc⟩ := h i hi
  exact ⟨b, off, ha, hlt, hc⟩
theorem gconfV (p : Pl) (c : Cf) (s : St) (w : World) (hG : G w p c s) :
    Calls Try.prog 22 #[.pointer (some ⟨p.a, 0, none⟩)] w fun e w' => e = .returned (.agg #[.int .i64 (c.N : Int), .int .i64 (c.W : Int), .int .i64 (c.R : Int), .int .i64 (c.K : Int)]) ∧ Below w.heap.size w w' := gconf_any p c s w hG

theorem conf_field0 (a b c d : Int) (w : World) : (Instr.field 23 (.agg #[.int .i64 a, .int .i64 b, .int .i64 c, .int .i64 d]) 0).run Try.prog w = .ok (.int .i64 a) w := by kernel_rfl


end Go.Proofs.Yticlidpdmonijaa.Pk
