/-
  Texts laid together: Base, NumMath, ShapeMath.
-/
import Derived.WalkKit
import Derived.WalkSpells
import Derived.WalkLawsBesides
import Derived.Deep.QuietTactic
import Derived.BigQuiet
import Derived.Lib.Hide
import Derived.Laws.NewBlocks
import Derived.OneCell
import Derived.Laws.MakeOwn
import Derived.Laws.OwnMore
import Derived.Test.YtlgkgijgnmancaaDoorProg
import Derived.IntWalk
/-
  Mem: Memory: slices that read as lists of numbers, worlds behind draws, worlds with blocks of a call's own; ends of calls. No program in sight.
  Touch: Memory that a call may change: worlds that differ in some blocks alone; blocks that are known whole. No program in sight.
  Arr: Arrays of a call's own, of one-cell elements. No program in sight.
  OwnR: Rows of numbers in blocks of their own, which may be written. No program in sight.
  Same: The document's Same: rows of words that are alike.
-/

namespace Go.Proofs.YtlgkgijgnmancaaDoor.Pk
open Go.RowKit
set_option linter.unusedVariables false
set_option linter.unusedSimpArgs false

/-- An element of a list of numbers, 0 behind its end. -/
def nth (zs : List Int) (i : Nat) : Int := zs.getD i 0
/-- A slice value's elements, as they read in a world: those of zs. -/
def Row (w : World) (k : IntKind) (a : Option Addr) (zs : List Int) : Prop :=
  ∀ i, i < zs.length → ∃ b off, a = some ⟨b, off, none⟩ ∧ b < w.heap.size ∧ w.cell? ⟨b, off + i, none⟩ = some (.int k (nth zs i))
theorem Row.nil (w : World) (k : IntKind) (a : Option Addr) : Row w k a [] := fun _ h => absurd h (Nat.not_lt_zero _)
theorem Row.below {w w' : World} {k : IntKind} {a : Option Addr} {zs : List Int} {B : Nat} (h : Row w k a zs) (hb : Below B w w') (hB : w.heap.size ≤ B) : Row w' k a zs := by
  intro i hi
  obtain ⟨b, off, ha, hlt, hc⟩ := h i hi
  exact ⟨b, off, ha, Nat.lt_of_lt_of_le hlt hb.size, by rw [hb.cell (p := ⟨b, off + i, none⟩) (Nat.lt_of_lt_of_le hlt hB)]; exact hc⟩
theorem Row.drewN {w : World} {k : IntKind} {a : Option Addr} {zs : List Int} (h : Row w k a zs) (n : Nat) : Row (w.drewN n) k a zs := by
  intro i hi
  obtain ⟨b, off, ha, hlt, hc⟩ := h i hi
  exact ⟨b, off, ha, hlt, hc⟩

theorem Row.alloc {w : World} {k : IntKind} {a : Option Addr} {zs : List Int} (h : Row w k a zs) (o : Obj) : Row (w.alloc o) k a zs :=
  h.below ((Below.refl w.heap.size w).alloc (Nat.le_refl _) o) (Nat.le_refl _)
theorem Row.later {w w' : World} {k : IntKind} {a : Option Addr} {zs : List Int} (h : Row w k a zs) (hb : Below w.heap.size w w') : Row w' k a zs := h.below hb (Nat.le_refl _)
/-- The chain of worlds, each with blocks of its own alone. -/
theorem below_step {w w1 w2 : World} (h : Below w.heap.size w w1) (h2 : Below w1.heap.size w1 w2) : Below w.heap.size w w2 := h.trans (h2.mono h.size)
theorem below_new (w : World) (o : Obj) : Below w.heap.size w (w.alloc o) := (Below.refl _ _).alloc (Nat.le_refl _) o
theorem cell_block {w : World} {a : Addr} {v : Value} (h : w.cell? a = some v) : a.block < w.heap.size := by
  by_cases hlt : a.block < w.heap.size
  · exact hlt
  · unfold World.cell? at h
    rw [Array.getElem?_eq_none (by omega)] at h
    cases h
theorem cell_none {w : World} {a : Addr} {v : Value} (h : w.cell? a = some v) : a.spot = none := by
  unfold World.cell? at h
  split at h
  · split at h
    · cases h
    · rename_i hs
      cases hsp : a.spot with
      | none => rfl
      | some k => rw [hsp] at hs; exact absurd rfl hs
  · cases h
/-- A slice of numbers that came in. -/
theorem row_open {W : World} {k : IntKind} {x : Addr} {len cap : Nat} {zs : List Int} (hl : len ≤ cap) (hm : cap ≤ maxLen) (hz : zs.length = cap)
    (hcell : ∀ i, i < zs.length → W.cell? (x.add i) = some (.int k (zs.getD i 0))) (hwz : ∀ n ∈ zs, (Lit.int k n).wf = true) :
    ∃ es : List Int, len = es.length ∧ Row W k (some x) es ∧ (∀ n ∈ es, (Lit.int k n).wf = true) ∧ len ≤ maxLen := by
  refine ⟨zs.take len, by simp; omega, ?_, fun n hn => hwz n (List.mem_of_mem_take hn), Nat.le_trans hl hm⟩
  intro i hi
  have hi1 : i < len := by simp at hi; omega
  obtain ⟨b, off, spot⟩ := x
  have hs := cell_none (hcell 0 (by omega))
  simp [Addr.add] at hs
  subst hs
  have hadd : (⟨b, off, none⟩ : Addr).add i = ⟨b, off + i, none⟩ := by
    unfold Addr.add
    by_cases h0 : i = 0
    · subst h0; rfl
    · simp [h0]
  have hc := hcell i (by omega)
  rw [hadd] at hc
  refine ⟨b, off, rfl, cell_block hc, ?_⟩
  rw [hc]
  unfold nth
  simp [List.getD, hi1]
/-- A world behind some draws. -/
def Drw (w w' : World) : Prop := ∃ m, w' = w.drewN m
theorem Drw.refl (w : World) : Drw w w := ⟨0, rfl⟩
theorem Drw.step {w w' : World} (h : Drw w w') (n : Nat) : Drw w (w'.drewN n) := by
  obtain ⟨m, rfl⟩ := h; exact ⟨m + n, World.drewN_drewN _ _ _⟩
theorem Drw.size {w w' : World} (h : Drw w w') : w'.heap.size = w.heap.size := by obtain ⟨m, rfl⟩ := h; rfl
theorem Drw.below {w w' : World} (h : Drw w w') (B : Nat) : Below B w w' := by obtain ⟨m, rfl⟩ := h; exact ⟨rfl, rfl, rfl, Nat.le_refl _, fun _ _ => rfl⟩
theorem Drw.new {w w' : World} (h : Drw w w') : Below w.heap.size w w' := h.below _
theorem Row.drw {w w' : World} {k : IntKind} {a : Option Addr} {zs : List Int} (h : Row w k a zs) (d : Drw w w') : Row w' k a zs := by
  obtain ⟨m, rfl⟩ := d; exact h.drewN m

theorem ret_bool {a b : Bool} (h : a = b) : Ending.returned (.bool a) = .returned (.bool b) := by rw [h]

theorem ret_int {k : IntKind} {a b : Int} (h : a = b) : Ending.returned (.int k a) = .returned (.int k b) := by rw [h]

/-- What a call owns as a row of numbers reads as those numbers. -/
theorem Row.of_owns {w : World} {B : Nat} {e : TypeId} {k : IntKind} {v : Value} {zs : List Int} (h : w.ownsRow B e 1 v zs.length (zs.map (Value.int k))) :
    ∃ a cap, v = .slice a zs.length cap ∧ Row w k a zs := by
  rcases h.2 with ⟨h1, h2⟩ | ⟨g, cap, cur, h1, _, hg, _⟩
  · refine ⟨none, 0, by rw [h1, h2], fun i hi => ?_⟩
    omega
  · refine ⟨some ⟨g, 0, none⟩, cap, h1, fun i hi => ⟨g, 0, rfl, ?_, ?_⟩⟩
    · by_cases hlt : g < w.heap.size
      · exact hlt
      · rw [Array.getElem?_eq_none (by omega)] at hg
        cases hg
    · subst h1
      have hc := h.cellAt i (by omega)
      rw [Nat.zero_add, hc, List.getElem?_map]
      show Option.map (Value.int k) zs[i]? = some (Value.int k (zs.getD i 0))
      simp [List.getD, hi]

theorem owns_block {w : World} {B : Nat} {e : TypeId} {size : Nat} {v : Value} {n : Nat} {xs : List Value} (h : w.ownsRow B e size v n xs) : ∀ k, v.ownBlock = some k → B ≤ k := by
  intro k hk
  rcases h.2 with ⟨h1, _⟩ | ⟨g, cap, cur, h1, hb, _⟩
  · subst h1; cases hk
  · subst h1
    simp [Value.ownBlock] at hk
    omega

theorem Row.lit (w : World) (k : IntKind) (zs : List Int) (t : TypeId) : Row (w.alloc (.cells (zs.map (Value.int k)).toArray t)) k (some ⟨w.heap.size, 0, none⟩) zs := by
  intro i hi
  refine ⟨w.heap.size, 0, rfl, by simp, ?_⟩
  rw [Nat.zero_add, World.cell?_alloc_at _ _ _ _ rfl]
  show (zs.map (Value.int k)).toArray[i]? = some (Value.int k (zs.getD i 0))
  simp [List.getD, hi]

end Go.Proofs.YtlgkgijgnmancaaDoor.Pk

namespace Go.Proofs.YtlgkgijgnmancaaDoor.Pk
open Go.RowKit
set_option linter.unusedVariables false
set_option linter.unusedSimpArgs false

/-- Of the blocks that there were, only those in X may have changed; blocks may have been made. -/
structure Touch (X : Nat → Prop) (w w' : World) : Prop where
  os : w'.os = w.os
  tape : w'.tape = w.tape
  output : w'.output = w.output
  size : w.heap.size ≤ w'.heap.size
  block : ∀ k, k < w.heap.size → ¬ X k → w'.heap[k]? = w.heap[k]?

theorem Touch.refl (X : Nat → Prop) (w : World) : Touch X w w := ⟨rfl, rfl, rfl, Nat.le_refl _, fun _ _ _ => rfl⟩
theorem Touch.trans {X : Nat → Prop} {a b c : World} (h : Touch X a b) (k : Touch X b c) : Touch X a c :=
  ⟨k.os.trans h.os, k.tape.trans h.tape, k.output.trans h.output, Nat.le_trans h.size k.size, fun i hi hx => (k.block i (Nat.lt_of_lt_of_le hi h.size) hx).trans (h.block i hi hx)⟩
theorem Touch.mono {X Y : Nat → Prop} {w w' : World} (h : Touch X w w') (hXY : ∀ k, k < w.heap.size → X k → Y k) : Touch Y w w' :=
  ⟨h.os, h.tape, h.output, h.size, fun k hk hy => h.block k hk fun hx => hy (hXY k hk hx)⟩
theorem Touch.below {X : Nat → Prop} {w w' : World} {B : Nat} (h : Touch X w w') (hX : ∀ k, X k → B ≤ k) (hB : B ≤ w.heap.size) : Below B w w' :=
  ⟨h.os, h.tape, h.output, h.size, fun k hk => h.block k (by omega) fun hx => by have := hX k hx; omega⟩
theorem Touch.alloc {X : Nat → Prop} {a w : World} (h : Touch X a w) (o : Obj) : Touch X a (w.alloc o) :=
  ⟨h.os, h.tape, h.output, by have := h.size; simp; omega, fun k hk hx => (Below.heap_alloc _ _ _ (Nat.lt_of_lt_of_le hk h.size)).trans (h.block k hk hx)⟩
theorem Touch.setCell {X : Nat → Prop} {a w : World} (h : Touch X a w) {p : Addr} (hp : p.block < a.heap.size → X p.block) (u : Value) : Touch X a (w.setCell p u) :=
  ⟨h.os, h.tape, h.output, by have := h.size; simpa [World.setCell] using this, fun k hk hx => (Below.heap_setCell _ _ _ _ (fun e => by subst e; exact hx (hp hk))).trans (h.block k hk hx)⟩
theorem Touch.drewN {X : Nat → Prop} {a w : World} (h : Touch X a w) (n : Nat) : Touch X a (w.drewN n) := ⟨h.os, h.tape, h.output, h.size, h.block⟩
theorem Touch.cell {X : Nat → Prop} {w w' : World} (h : Touch X w w') {p : Addr} (hp : p.block < w.heap.size) (hx : ¬ X p.block) : w'.cell? p = w.cell? p := World.cell?_of_block (w := w) (h.block p.block hp hx)

/-- A block that is known whole, and may be written. -/
def Blk (w : World) (b : Nat) (cs : Array Value) (t : TypeId) : Prop := w.heap[b]? = some (.cells cs t (0, 0))
theorem Blk.lt {w : World} {b : Nat} {cs : Array Value} {t : TypeId} (h : Blk w b cs t) : b < w.heap.size := lt_of_block h
theorem Blk.cell {w : World} {b : Nat} {cs : Array Value} {t : TypeId} (h : Blk w b cs t) (i : Nat) {v : Value} (hv : cs[i]? = some v) : w.cell? ⟨b, i, none⟩ = some v := by
  unfold Blk at h
  simp [World.cell?, h, hv]
theorem Blk.free {w : World} {b : Nat} {cs : Array Value} {t : TypeId} (h : Blk w b cs t) (i : Nat) : w.frozen? ⟨b, i, none⟩ = false := by
  unfold Blk at h
  simp [World.frozen?, h]
theorem Blk.new (w : World) (cs : Array Value) (t : TypeId) : Blk (w.alloc (.cells cs t)) w.heap.size cs t := by
  show (w.heap.push _)[w.heap.size]? = _
  simp
theorem Blk.alloc {w : World} {b : Nat} {cs : Array Value} {t : TypeId} (h : Blk w b cs t) (o : Obj) : Blk (w.alloc o) b cs t := (Below.heap_alloc _ _ _ h.lt).trans h
theorem Blk.drewN {w : World} {b : Nat} {cs : Array Value} {t : TypeId} (h : Blk w b cs t) (n : Nat) : Blk (w.drewN n) b cs t := h
theorem Blk.set {w : World} {b : Nat} {cs : Array Value} {t : TypeId} (h : Blk w b cs t) (i : Nat) (v : Value) : Blk (w.setCell ⟨b, i, none⟩ v) b (cs.setIfInBounds i v) t := by
  have hlt := h.lt
  unfold Blk at h
  have h' : w.heap[b] = .cells cs t (0, 0) := by simpa [Array.getElem?_eq_getElem hlt] using h
  show (w.heap.modify b _)[b]? = _
  rw [Array.getElem?_eq_getElem (by simpa using hlt), Array.getElem_modify_self, h']
  rfl
/-- .. and the cells written out. -/
theorem Blk.put {w : World} {b : Nat} {cs cs' : Array Value} {t : TypeId} (h : Blk w b cs t) (i : Nat) (v : Value) (e : cs.setIfInBounds i v = cs') : Blk (w.setCell ⟨b, i, none⟩ v) b cs' t := e ▸ h.set i v
theorem Blk.touch {X : Nat → Prop} {w w' : World} {b : Nat} {cs : Array Value} {t : TypeId} (h : Blk w b cs t) (k : Touch X w w') (hx : ¬ X b) : Blk w' b cs t := (k.block b h.lt hx).trans h
theorem Blk.below {w w' : World} {b B : Nat} {cs : Array Value} {t : TypeId} (h : Blk w b cs t) (k : Below B w w') (hb : b < B) : Blk w' b cs t := (k.block b hb).trans h
theorem Blk.later {w w' : World} {b : Nat} {cs : Array Value} {t : TypeId} (h : Blk w b cs t) (k : Below w.heap.size w w') : Blk w' b cs t := (k.block b h.lt).trans h

/-- A row of numbers in blocks that are none of these. -/
def RowOut (X : Nat → Prop) (a : Option Addr) (zs : List Int) : Prop := 0 < zs.length → ∀ b off, a = some ⟨b, off, none⟩ → ¬ X b
theorem Row.touch {X : Nat → Prop} {w w' : World} {k : IntKind} {a : Option Addr} {zs : List Int} (h : Row w k a zs) (t : Touch X w w') (hx : RowOut X a zs) : Row w' k a zs := by
  intro i hi
  obtain ⟨b, off, ha, hlt, hc⟩ := h i hi
  exact ⟨b, off, ha, Nat.lt_of_lt_of_le hlt t.size, (t.cell (p := ⟨b, off + i, none⟩) hlt (hx (by omega) b off ha)).trans hc⟩
theorem RowOut.mono {X Y : Nat → Prop} {a : Option Addr} {zs : List Int} (h : RowOut X a zs) (hXY : ∀ k, Y k → X k) : RowOut Y a zs := fun h0 b off ha hy => h h0 b off ha (hXY b hy)
/-- A row below a block number lies in none of the blocks from it on. -/
theorem Row.out {w : World} {k : IntKind} {a : Option Addr} {zs : List Int} (h : Row w k a zs) {X : Nat → Prop} (hX : ∀ k, X k → w.heap.size ≤ k) : RowOut X a zs := by
  intro h0 b off ha hx
  obtain ⟨b', off', ha', hlt, _⟩ := h 0 h0
  rw [ha] at ha'
  cases ha'
  have := hX b hx
  omega

end Go.Proofs.YtlgkgijgnmancaaDoor.Pk

namespace Go.Proofs.YtlgkgijgnmancaaDoor.Pk
open Go.RowKit
set_option linter.unusedVariables false
set_option linter.unusedSimpArgs false

end Go.Proofs.YtlgkgijgnmancaaDoor.Pk

namespace Go.Proofs.YtlgkgijgnmancaaDoor.Pk
open Go.RowKit
set_option linter.unusedVariables false
set_option linter.unusedSimpArgs false

/-- A row that fills the beginning of a block. -/
def OwnR (w : World) (k : IntKind) (a : Option Addr) (zs : List Int) : Prop :=
  zs.length = 0 ∨ ∃ b cs t, a = some ⟨b, 0, none⟩ ∧ Blk w b cs t ∧ ∀ i, i < zs.length → cs[i]? = some (.int k (nth zs i))
theorem OwnR.row {w : World} {k : IntKind} {a : Option Addr} {zs : List Int} (h : OwnR w k a zs) : Row w k a zs := by
  intro i hi
  rcases h with h | ⟨b, cs, t, rfl, hb, hc⟩
  · omega
  · exact ⟨b, 0, rfl, hb.lt, by rw [Nat.zero_add]; exact hb.cell i (hc i hi)⟩
theorem OwnR.later {w w' : World} {k : IntKind} {a : Option Addr} {zs : List Int} (h : OwnR w k a zs) (hb : Below w.heap.size w w') : OwnR w' k a zs := by
  rcases h with h | ⟨b, cs, t, rfl, hk, hc⟩
  · exact .inl h
  · exact .inr ⟨b, cs, t, rfl, hk.later hb, hc⟩
theorem OwnR.drw {w w' : World} {k : IntKind} {a : Option Addr} {zs : List Int} (h : OwnR w k a zs) (hb : Drw w w') : OwnR w' k a zs := h.later hb.new
theorem OwnR.alloc {w : World} {k : IntKind} {a : Option Addr} {zs : List Int} (h : OwnR w k a zs) (o : Obj) : OwnR (w.alloc o) k a zs := h.later (below_new w o)
theorem OwnR.touch {X : Nat → Prop} {w w' : World} {k : IntKind} {a : Option Addr} {zs : List Int} (h : OwnR w k a zs) (t : Touch X w w') (hx : RowOut X a zs) : OwnR w' k a zs := by
  rcases h with h | ⟨b, cs, t', rfl, hk, hc⟩
  · exact .inl h
  · by_cases h0 : zs.length = 0
    · exact .inl h0
    · exact .inr ⟨b, cs, t', rfl, hk.touch t (hx (by omega) b 0 rfl), hc⟩
/-- One of its numbers is written. -/
theorem OwnR.set {w : World} {k : IntKind} {zs : List Int} {b i : Nat} (h : OwnR w k (some ⟨b, 0, none⟩) zs) (hi : i < zs.length) (v : Int) : OwnR (w.setCell ⟨b, i, none⟩ (.int k v)) k (some ⟨b, 0, none⟩) (zs.set i v) := by
  rcases h with h | ⟨b', cs, t, e, hk, hc⟩
  · omega
  · cases e
    refine .inr ⟨b, _, t, rfl, hk.set i (.int k v), fun j hj => ?_⟩
    have hj' : j < zs.length := by simpa using hj
    have hcj := hc j hj'
    have hjs : j < cs.size := (Array.getElem?_eq_some_iff.1 hcj).1
    by_cases e : j = i
    · subst e
      rw [Array.getElem?_setIfInBounds_self_of_lt hjs]
      unfold nth; simp [List.getD, hi]
    · rw [Array.getElem?_setIfInBounds_ne (fun h => e h.symm), hcj]
      unfold nth
      rw [List.getD_eq_getElem?_getD, List.getD_eq_getElem?_getD, List.getElem?_set_ne (fun h => e h.symm)]
theorem OwnR.at {w : World} {k : IntKind} {a : Option Addr} {zs : List Int} (h : OwnR w k a zs) {i : Nat} (hi : i < zs.length) : ∃ b, a = some ⟨b, 0, none⟩ ∧ b < w.heap.size ∧ w.cell? ⟨b, i, none⟩ = some (.int k (nth zs i)) ∧ w.frozen? ⟨b, i, none⟩ = false := by
  rcases h with h | ⟨b, cs, t, rfl, hk, hc⟩
  · omega
  · exact ⟨b, rfl, hk.lt, hk.cell i (hc i hi), hk.free i⟩
theorem OwnR.of_owns {w : World} {B : Nat} {e : TypeId} {k : IntKind} {v : Value} {zs : List Int} (h : w.ownsRow B e 1 v zs.length (zs.map (Value.int k))) : ∃ a cap, v = .slice a zs.length cap ∧ OwnR w k a zs := by
  rcases h.2 with ⟨h1, h2⟩ | ⟨g, cap, cur, h1, _, hg, _, _, _, ht⟩
  · exact ⟨none, 0, by rw [h1, h2], .inl h2⟩
  · refine ⟨some ⟨g, 0, none⟩, cap, h1, .inr ⟨g, cur, e, rfl, hg, fun i hi => ?_⟩⟩
    have : (cur.toList.take (zs.length * 1))[i]? = (zs.map (Value.int k))[i]? := by rw [ht]
    rw [List.getElem?_take, if_pos (by omega), List.getElem?_map] at this
    rw [← Array.getElem?_toList, this]
    unfold nth
    simp [List.getD, hi]

end Go.Proofs.YtlgkgijgnmancaaDoor.Pk

namespace Go.Proofs.YtlgkgijgnmancaaDoor.Pk
open Go.RowKit
set_option linter.unusedVariables false
set_option linter.unusedSimpArgs false

end Go.Proofs.YtlgkgijgnmancaaDoor.Pk

/-
  RatMath: Plain facts on numbers that stop at a bound: no program in sight.
  PlanMath: Plain facts on configurations and their numbers: no program in sight.
-/

namespace Go.Proofs.YtlgkgijgnmancaaDoor.Pk
open Go.RowKit
set_option linter.unusedVariables false
set_option linter.unusedSimpArgs false

/-- A number between two others. -/
def clampI (n lo hi : Int) : Int := if hi < n then hi else if n < lo then lo else n
/-- What a number counts as. -/
def cnt (n : Int) : Int := clampI n 0 1125899906842624
/-- What one divides by. -/
def byI (n : Int) : Int := if cnt n = 0 then 1 else cnt n
/-- A product of two numbers that stops at the bound. -/
def timesI (a b : Int) : Int := if 0 < b ∧ 1125899906842624 / b < a then 1125899906842624 else a * b
def upI (a b : Int) : Int := (cnt a + byI b - 1) / byI b
theorem cnt_bd (n : Int) : 0 ≤ cnt n ∧ cnt n ≤ 1125899906842624 := by
  unfold cnt clampI; split
  · omega
  · split <;> omega
theorem cnt_id {n : Int} (h0 : 0 ≤ n) (h1 : n ≤ 1125899906842624) : cnt n = n := by
  unfold cnt clampI; rw [if_neg (by omega), if_neg (by omega)]
theorem cnt_min (n : Int) : cnt n = max 0 (min n 1125899906842624) := by
  unfold cnt clampI; split
  · omega
  · split <;> omega
theorem byI_bd (n : Int) : 1 ≤ byI n ∧ byI n ≤ 1125899906842624 := by
  have := cnt_bd n
  unfold byI; split <;> omega
theorem byI_max (n : Int) : byI n = max (cnt n) 1 := by
  have := cnt_bd n
  unfold byI; split <;> omega
theorem times_min {a b : Int} (ha : 0 ≤ a) (hb : 0 ≤ b) (ha2 : a ≤ 1125899906842624) (hb2 : b ≤ 1125899906842624) : timesI a b = min 1125899906842624 (a * b) := by
  unfold timesI
  by_cases h : 0 < b ∧ 1125899906842624 / b < a
  · rw [if_pos h]
    have h1 := Int.emod_add_mul_ediv 1125899906842624 b
    have h2 := Int.emod_lt_of_pos 1125899906842624 h.1
    have h3 : b * (1125899906842624 / b + 1) ≤ b * a := Int.mul_le_mul_of_nonneg_left (by omega) hb
    rw [Int.mul_add, Int.mul_comm b a] at h3
    omega
  · rw [if_neg h]
    by_cases hb0 : b = 0
    · subst hb0; rw [Int.mul_zero]; decide
    · have hp : 0 < b := by omega
      have h4 : a ≤ 1125899906842624 / b := by
        by_cases h5 : 1125899906842624 / b < a
        · exact absurd ⟨hp, h5⟩ h
        · omega
      have h5 : b * a ≤ b * (1125899906842624 / b) := Int.mul_le_mul_of_nonneg_left h4 hb
      have h6 := Int.mul_ediv_self_le (x := 1125899906842624) (k := b) (by omega)
      rw [Int.mul_comm b a] at h5
      omega
theorem times_bd {a b : Int} (ha : 0 ≤ a) (hb : 0 ≤ b) (ha2 : a ≤ 1125899906842624) (hb2 : b ≤ 1125899906842624) : 0 ≤ timesI a b ∧ timesI a b ≤ 1125899906842624 := by
  rw [times_min ha hb ha2 hb2]
  have := Int.mul_nonneg ha hb
  omega

/-! ### Sums and products of lists -/
def addL (l : List Int) : Int := l.foldl (fun s n => cnt (s + cnt n)) 0
def mulL (l : List Int) : Int := l.foldl (fun s n => timesI s (cnt n)) 1
/-- The k first numbers' sum, and product. -/
def addTo (l : List Int) (k : Nat) : Int := addL (l.take k)
def mulTo (l : List Int) (k : Nat) : Int := mulL (l.take k)
theorem take_nth {l : List Int} {k : Nat} (h : k < l.length) : l.take (k + 1) = l.take k ++ [nth l k] := by
  rw [List.take_succ_eq_append_getElem h]; unfold nth; simp [List.getD, h]
theorem addTo_succ {l : List Int} {k : Nat} (h : k < l.length) : addTo l (k + 1) = cnt (addTo l k + cnt (nth l k)) := by
  unfold addTo addL; rw [take_nth h, List.foldl_append]; rfl
theorem addTo_all (l : List Int) : addTo l l.length = addL l := by unfold addTo; rw [List.take_length]
theorem mulTo_succ {l : List Int} {k : Nat} (h : k < l.length) : mulTo l (k + 1) = timesI (mulTo l k) (cnt (nth l k)) := by
  unfold mulTo mulL; rw [take_nth h, List.foldl_append]; rfl
theorem mulTo_all (l : List Int) : mulTo l l.length = mulL l := by unfold mulTo; rw [List.take_length]

/-- The sum, the product, with no bound. -/
def sumC : List Int → Int
  | [] => 0
  | n :: l => cnt n + sumC l
def prodC : List Int → Int
  | [] => 1
  | n :: l => cnt n * prodC l
theorem sumC_nn (l : List Int) : 0 ≤ sumC l := by
  induction l with
  | nil => exact Int.le_refl _
  | cons n l ih => have := cnt_bd n; show 0 ≤ cnt n + sumC l; omega
theorem prodC_nn (l : List Int) : 0 ≤ prodC l := by
  induction l with
  | nil => decide
  | cons n l ih => exact Int.mul_nonneg (cnt_bd n).1 ih
theorem sumC_append (l m : List Int) : sumC (l ++ m) = sumC l + sumC m := by
  induction l with
  | nil => show sumC m = 0 + sumC m; omega
  | cons n l ih => show cnt n + sumC (l ++ m) = cnt n + sumC l + sumC m; rw [ih]; omega
theorem prodC_append (l m : List Int) : prodC (l ++ m) = prodC l * prodC m := by
  induction l with
  | nil => show prodC m = 1 * prodC m; omega
  | cons n l ih => show cnt n * prodC (l ++ m) = cnt n * prodC l * prodC m; rw [ih, Int.mul_assoc]
theorem sumC_one (n : Int) : sumC [n] = cnt n := by show cnt n + 0 = cnt n; omega
theorem prodC_one (n : Int) : prodC [n] = cnt n := by show cnt n * 1 = cnt n; omega
theorem addL_sum (l : List Int) : addL l = min 1125899906842624 (sumC l) := by
  have h : ∀ k, k ≤ l.length → addTo l k = min 1125899906842624 (sumC (l.take k)) := by
    intro k
    induction k with
    | zero => intro _; rfl
    | succ k ih =>
      intro hk
      rw [addTo_succ hk, ih (by omega), take_nth hk, sumC_append, sumC_one, cnt_min]
      have h1 := sumC_nn (l.take k)
      have h2 := cnt_bd (nth l k)
      omega
  have := h l.length (Nat.le_refl _)
  rwa [addTo_all, List.take_length] at this
theorem addL_bd (l : List Int) : 0 ≤ addL l ∧ addL l ≤ 1125899906842624 := by
  rw [addL_sum]; have := sumC_nn l; omega
theorem addTo_bd (l : List Int) (k : Nat) : 0 ≤ addTo l k ∧ addTo l k ≤ 1125899906842624 := addL_bd _
theorem min_mul {p c : Int} (hp : 0 ≤ p) (hc : 0 ≤ c) : min 1125899906842624 (min 1125899906842624 p * c) = min 1125899906842624 (p * c) := by
  by_cases h : p ≤ 1125899906842624
  · rw [show min 1125899906842624 p = p by omega]
  · rw [show min 1125899906842624 p = 1125899906842624 by omega]
    by_cases h0 : c = 0
    · subst h0; rw [Int.mul_zero, Int.mul_zero]
    · have h1 : 1125899906842624 * 1 ≤ 1125899906842624 * c := Int.mul_le_mul_of_nonneg_left (by omega) (by decide)
      have h2 : 1125899906842624 * c ≤ p * c := Int.mul_le_mul_of_nonneg_right (by omega) hc
      omega
theorem mulTo_prod (l : List Int) : ∀ k, k ≤ l.length → mulTo l k = min 1125899906842624 (prodC (l.take k)) := by
  intro k
  induction k with
  | zero => intro _; rfl
  | succ k ih =>
    intro hk
    have h1 := prodC_nn (l.take k)
    have h2 := cnt_bd (nth l k)
    rw [mulTo_succ hk, ih (by omega), take_nth hk, prodC_append, prodC_one, times_min (by omega) h2.1 (by omega) h2.2, min_mul h1 h2.1]
theorem mulL_prod (l : List Int) : mulL l = min 1125899906842624 (prodC l) := by
  have := mulTo_prod l l.length (Nat.le_refl _)
  rwa [mulTo_all, List.take_length] at this
theorem mulL_bd (l : List Int) : 0 ≤ mulL l ∧ mulL l ≤ 1125899906842624 := by
  rw [mulL_prod]; have := prodC_nn l; omega
theorem mulTo_bd (l : List Int) (k : Nat) : 0 ≤ mulTo l k ∧ mulTo l k ≤ 1125899906842624 := mulL_bd _
theorem addL_two (a b : Int) : addL [a, b] = cnt (cnt a + cnt b) := by
  show cnt (cnt (0 + cnt a) + cnt b) = _
  rw [Int.zero_add, cnt_id (cnt_bd a).1 (cnt_bd a).2]
theorem mulL_two (a b : Int) : mulL [a, b] = timesI (cnt a) (cnt b) := by
  show timesI (timesI 1 (cnt a)) (cnt b) = _
  rw [times_min (by decide) (cnt_bd a).1 (by decide) (cnt_bd a).2, Int.one_mul]
  have := cnt_bd a
  rw [show min 1125899906842624 (cnt a) = cnt a by omega]
/-! ### Least -/
end Go.Proofs.YtlgkgijgnmancaaDoor.Pk

namespace Go.Proofs.YtlgkgijgnmancaaDoor.Pk
open Go.RowKit
set_option linter.unusedVariables false
set_option linter.unusedSimpArgs false

theorem mul2_id {a b : Int} (ha : 0 ≤ a) (hb : 0 ≤ b) (h1 : a ≤ 1125899906842624) (h2 : b ≤ 1125899906842624) (h : a * b ≤ 1125899906842624) : mulL [a, b] = a * b := by
  rw [mulL_two, cnt_id ha h1, cnt_id hb h2, times_min ha hb h1 h2]
  omega
theorem up_id {a b : Int} (ha : 0 ≤ a) (h1 : a ≤ 1125899906842624) (hb : 1 ≤ b) (h2 : b ≤ 1125899906842624) : upI a b = (a + b - 1) / b := by
  have e : byI b = b := by unfold byI; rw [cnt_id (by omega) h2, if_neg (by omega)]
  unfold upI
  rw [e, cnt_id ha h1]

/-! ### The numbers -/
def fieldsI (W : Int) : Int := (W - 8) * (W - 1)
def upP (a b : Int) : Int := (a + b - 1) / b
theorem fields_bd {W : Int} (h0 : 16 ≤ W) (h1 : W ≤ 256) : 120 ≤ fieldsI W ∧ fieldsI W ≤ 63240 := by
  have a := Int.mul_le_mul (show (8 : Int) ≤ W - 8 by omega) (show (15 : Int) ≤ W - 1 by omega) (by omega) (by omega)
  have b := Int.mul_le_mul (show W - 8 ≤ 248 by omega) (show W - 1 ≤ 255 by omega) (by omega) (by omega)
  unfold fieldsI; omega
theorem upP_bd {a b : Int} (ha : 0 ≤ a) (hb : 1 ≤ b) : 0 ≤ upP a b ∧ upP a b ≤ a ∧ a ≤ b * upP a b ∧ b * upP a b < a + b := by
  unfold upP
  have h1 := Int.emod_add_mul_ediv (a + b - 1) b
  have h2 := Int.emod_nonneg (a + b - 1) (show b ≠ 0 by omega)
  have h3 := Int.emod_lt_of_pos (a + b - 1) (show 0 < b by omega)
  have h4 : 0 ≤ (a + b - 1) / b := Int.ediv_nonneg (by omega) (by omega)
  refine ⟨h4, ?_, by omega, by omega⟩
  by_cases h5 : a = 0
  · subst h5
    have : (0 + b - 1) / b = 0 := Int.ediv_eq_zero_of_lt (by omega) (by omega)
    omega
  · have h6 : (a + b - 1) / b < a + 1 := by
      apply Int.ediv_lt_of_lt_mul (by omega)
      have h7 : a * 1 ≤ a * b := Int.mul_le_mul_of_nonneg_left hb ha
      have : (a + 1) * b = a * b + b := by rw [Int.add_mul]; omega
      omega
    omega
/-! ### With more units for each block -/
/-! ### Half -/
end Go.Proofs.YtlgkgijgnmancaaDoor.Pk

/-
  Plain facts on shapes: widths, sizes, places. No program in sight.
-/
namespace Go.Proofs.YtlgkgijgnmancaaDoor.Pk
open Go.RowKit
set_option linter.unusedVariables false
set_option linter.unusedSimpArgs false

/-- Is it a width? -/
def widB (W : Int) : Bool := decide (16 ≤ W ∧ W ≤ 256)
theorem widB_yes {W : Int} (h : widB W = true) : 16 ≤ W ∧ W ≤ 256 := of_decide_eq_true h
theorem widB_mk {W : Int} (h0 : 16 ≤ W) (h1 : W ≤ 256) : widB W = true := decide_eq_true ⟨h0, h1⟩
theorem widB_mk' {W : Int} (h : ¬ (16 ≤ W ∧ W ≤ 256)) : widB W = false := decide_eq_false h
/-- How many leaves an object of so many fields has. -/
def leavesI (W n : Int) : Int := if n ≤ W - 8 then 0 else upP n (W - 1)
/-- What is wrong with a width and two numbers of fields. -/
def sizeE (W p d : Int) : Int := if widB W = true then (if p < 0 ∨ d < 0 ∨ fieldsI W < p + d then 3 else 0) else 1
def blocksV (W p d : Int) : Int := if sizeE W p d = 0 then 1 + leavesI W (p + d) else 0
theorem sizeE_ok {W p d : Int} (h : sizeE W p d = 0) : 16 ≤ W ∧ W ≤ 256 ∧ 0 ≤ p ∧ 0 ≤ d ∧ p + d ≤ fieldsI W := by
  unfold sizeE at h
  split at h
  · rename_i hw
    have := widB_yes hw
    split at h
    · cases h
    · omega
  · cases h
/-- The leaves of an object that is not small. -/
theorem leaves_big {W n : Int} (h0 : 16 ≤ W) (h1 : W ≤ 256) (h2 : W - 8 < n) (h3 : n ≤ fieldsI W) :
    1 ≤ leavesI W n ∧ leavesI W n ≤ W - 8 ∧ n ≤ leavesI W n * (W - 1) ∧ leavesI W n * (W - 1) < n + W - 1 := by
  have e : leavesI W n = upP n (W - 1) := by unfold leavesI; rw [if_neg (by omega)]
  have u := upP_bd (a := n) (b := W - 1) (by omega) (by omega)
  rw [e]
  rw [Int.mul_comm (W - 1)] at u
  refine ⟨?_, ?_, u.2.2.1, by omega⟩
  · by_cases h : 1 ≤ upP n (W - 1)
    · exact h
    · have : upP n (W - 1) = 0 := by omega
      rw [this, Int.zero_mul] at u
      omega
  · by_cases h : upP n (W - 1) ≤ W - 8
    · exact h
    · have h4 : (W - 8 + 1) * (W - 1) ≤ upP n (W - 1) * (W - 1) := Int.mul_le_mul_of_nonneg_right (by omega) (by omega)
      rw [Int.add_mul] at h4
      have : (W - 8) * (W - 1) = fieldsI W := rfl
      omega
theorem leaves_small {W n : Int} (h : n ≤ W - 8) : leavesI W n = 0 := by unfold leavesI; rw [if_pos h]
theorem leaves_bd {W n : Int} (h0 : 16 ≤ W) (h1 : W ≤ 256) (h3 : n ≤ fieldsI W) : 0 ≤ leavesI W n ∧ leavesI W n ≤ W - 8 := by
  by_cases h : n ≤ W - 8
  · rw [leaves_small h]; omega
  · have := leaves_big h0 h1 (by omega) h3; omega
/-- Products with a leaf that there is. -/
theorem leaf_lt {m a b : Int} (hm : 1 ≤ m) (h : a < b) : a * m + m ≤ b * m := by
  have : (a + 1) * m ≤ b * m := Int.mul_le_mul_of_nonneg_right (by omega) (by omega)
  rw [Int.add_mul] at this
  omega
theorem leaf_le {m a b : Int} (hm : 1 ≤ m) (h : a ≤ b) : a * m ≤ b * m := Int.mul_le_mul_of_nonneg_right h (by omega)
/-! ### Going through all fields -/
/-! ### All leaves together -/
end Go.Proofs.YtlgkgijgnmancaaDoor.Pk
