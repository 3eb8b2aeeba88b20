/-
  Texts laid together: Base, NumMath, PackFn, TagMath, ShapeMath.
-/
import Derived.WalkKit
import Derived.WalkSpells
import Derived.WalkLawsBesides
import Derived.Deep.QuietTactic
import Derived.BigQuiet
import Derived.Lib.Hide
import Derived.Laws.NewBlocks
import Derived.OneCell
import Derived.Laws.MakeOwn
import Derived.Laws.OwnMore
import Derived.Test.YtljdbaddockfcaaGreatProg
import Derived.IntWalk
/-
  Mem: Memory: slices that read as lists of numbers, worlds behind draws, worlds with blocks of a call's own; ends of calls. No program in sight.
  Touch: Memory that a call may change: worlds that differ in some blocks alone; blocks that are known whole. No program in sight.
  Arr: Arrays of a call's own, of one-cell elements. No program in sight.
  OwnR: Rows of numbers in blocks of their own, which may be written. No program in sight.
  Same: The document's Same: rows of words that are alike.
-/

namespace Go.Proofs.YtljdbaddockfcaaGreat.Pk
open Go.RowKit
set_option linter.unusedVariables false
set_option linter.unusedSimpArgs false

/-- An element of a list of numbers, 0 behind its end. -/
def nth (zs : List Int) (i : Nat) : Int := zs.getD i 0
/-- A slice value's elements, as they read in a world: those of zs. -/
def Row (w : World) (k : IntKind) (a : Option Addr) (zs : List Int) : Prop :=
  ∀ i, i < zs.length → ∃ b off, a = some ⟨b, off, none⟩ ∧ b < w.heap.size ∧ w.cell? ⟨b, off + i, none⟩ = some (.int k (nth zs i))
theorem Row.nil (w : World) (k : IntKind) (a : Option Addr) : Row w k a [] := fun _ h => absurd h (Nat.not_lt_zero _)
theorem Row.below {w w' : World} {k : IntKind} {a : Option Addr} {zs : List Int} {B : Nat} (h : Row w k a zs) (hb : Below B w w') (hB : w.heap.size ≤ B) : Row w' k a zs := by
  intro i hi
  obtain ⟨b, off, ha, hlt, hc⟩ := h i hi
  exact ⟨b, off, ha, Nat.lt_of_lt_of_le hlt hb.size, by rw [hb.cell (p := ⟨b, off + i, none⟩) (Nat.lt_of_lt_of_le hlt hB)]; exact hc⟩
theorem Row.drewN {w : World} {k : IntKind} {a : Option Addr} {zs : List Int} (h : Row w k a zs) (n : Nat) : Row (w.drewN n) k a zs := by
  intro i hi
  obtain ⟨b, off, ha, hlt, hc⟩ := h i hi
  exact ⟨b, off, ha, hlt, hc⟩

theorem Row.alloc {w : World} {k : IntKind} {a : Option Addr} {zs : List Int} (h : Row w k a zs) (o : Obj) : Row (w.alloc o) k a zs :=
  h.below ((Below.refl w.heap.size w).alloc (Nat.le_refl _) o) (Nat.le_refl _)
theorem Row.later {w w' : World} {k : IntKind} {a : Option Addr} {zs : List Int} (h : Row w k a zs) (hb : Below w.heap.size w w') : Row w' k a zs := h.below hb (Nat.le_refl _)
/-- The chain of worlds, each with blocks of its own alone. -/
theorem below_step {w w1 w2 : World} (h : Below w.heap.size w w1) (h2 : Below w1.heap.size w1 w2) : Below w.heap.size w w2 := h.trans (h2.mono h.size)
theorem below_new (w : World) (o : Obj) : Below w.heap.size w (w.alloc o) := (Below.refl _ _).alloc (Nat.le_refl _) o
theorem below_set {w w1 : World} (h : Below w.heap.size w w1) {p : Addr} (hp : w.heap.size ≤ p.block) (u : Value) : Below w.heap.size w (w1.setCell p u) := h.setCell hp u
theorem cell_block {w : World} {a : Addr} {v : Value} (h : w.cell? a = some v) : a.block < w.heap.size := by
  by_cases hlt : a.block < w.heap.size
  · exact hlt
  · unfold World.cell? at h
    rw [Array.getElem?_eq_none (by omega)] at h
    cases h
theorem cell_none {w : World} {a : Addr} {v : Value} (h : w.cell? a = some v) : a.spot = none := by
  unfold World.cell? at h
  split at h
  · split at h
    · cases h
    · rename_i hs
      cases hsp : a.spot with
      | none => rfl
      | some k => rw [hsp] at hs; exact absurd rfl hs
  · cases h
/-- A slice of numbers that came in. -/
theorem row_open {W : World} {k : IntKind} {x : Addr} {len cap : Nat} {zs : List Int} (hl : len ≤ cap) (hm : cap ≤ maxLen) (hz : zs.length = cap)
    (hcell : ∀ i, i < zs.length → W.cell? (x.add i) = some (.int k (zs.getD i 0))) (hwz : ∀ n ∈ zs, (Lit.int k n).wf = true) :
    ∃ es : List Int, len = es.length ∧ Row W k (some x) es ∧ (∀ n ∈ es, (Lit.int k n).wf = true) ∧ len ≤ maxLen := by
  refine ⟨zs.take len, by simp; omega, ?_, fun n hn => hwz n (List.mem_of_mem_take hn), Nat.le_trans hl hm⟩
  intro i hi
  have hi1 : i < len := by simp at hi; omega
  obtain ⟨b, off, spot⟩ := x
  have hs := cell_none (hcell 0 (by omega))
  simp [Addr.add] at hs
  subst hs
  have hadd : (⟨b, off, none⟩ : Addr).add i = ⟨b, off + i, none⟩ := by
    unfold Addr.add
    by_cases h0 : i = 0
    · subst h0; rfl
    · simp [h0]
  have hc := hcell i (by omega)
  rw [hadd] at hc
  refine ⟨b, off, rfl, cell_block hc, ?_⟩
  rw [hc]
  unfold nth
  simp [List.getD, hi1]
/-- A world behind some draws. -/
def Drw (w w' : World) : Prop := ∃ m, w' = w.drewN m
theorem Drw.refl (w : World) : Drw w w := ⟨0, rfl⟩
theorem Drw.step {w w' : World} (h : Drw w w') (n : Nat) : Drw w (w'.drewN n) := by
  obtain ⟨m, rfl⟩ := h; exact ⟨m + n, World.drewN_drewN _ _ _⟩
theorem Drw.size {w w' : World} (h : Drw w w') : w'.heap.size = w.heap.size := by obtain ⟨m, rfl⟩ := h; rfl
theorem Drw.below {w w' : World} (h : Drw w w') (B : Nat) : Below B w w' := by obtain ⟨m, rfl⟩ := h; exact ⟨rfl, rfl, rfl, Nat.le_refl _, fun _ _ => rfl⟩
theorem Drw.new {w w' : World} (h : Drw w w') : Below w.heap.size w w' := h.below _
theorem Row.drw {w w' : World} {k : IntKind} {a : Option Addr} {zs : List Int} (h : Row w k a zs) (d : Drw w w') : Row w' k a zs := by
  obtain ⟨m, rfl⟩ := d; exact h.drewN m

theorem ret_bool {a b : Bool} (h : a = b) : Ending.returned (.bool a) = .returned (.bool b) := by rw [h]

theorem ret_int {k : IntKind} {a b : Int} (h : a = b) : Ending.returned (.int k a) = .returned (.int k b) := by rw [h]

/-- A callee that leaves the world alone, met in a region that draws its order. -/
theorem quiet_eq {P : Program} {f : FuncId} {args : Array Value} {w : World} {n : Nat} {v : Value}
    (h : Calls P f args (w.drewN n) fun e w' => e = .returned v ∧ w.drewN n = w') : Calls P f args (w.drewN n) fun e w'' => e = .returned v ∧ ∃ m, w'' = w.drewN m :=
  h.mono fun _ _ ⟨he, hm⟩ => ⟨he, n, hm.symm⟩

/-- What a call owns as a row of numbers reads as those numbers. -/
theorem Row.of_owns {w : World} {B : Nat} {e : TypeId} {k : IntKind} {v : Value} {zs : List Int} (h : w.ownsRow B e 1 v zs.length (zs.map (Value.int k))) :
    ∃ a cap, v = .slice a zs.length cap ∧ Row w k a zs := by
  rcases h.2 with ⟨h1, h2⟩ | ⟨g, cap, cur, h1, _, hg, _⟩
  · refine ⟨none, 0, by rw [h1, h2], fun i hi => ?_⟩
    omega
  · refine ⟨some ⟨g, 0, none⟩, cap, h1, fun i hi => ⟨g, 0, rfl, ?_, ?_⟩⟩
    · by_cases hlt : g < w.heap.size
      · exact hlt
      · rw [Array.getElem?_eq_none (by omega)] at hg
        cases hg
    · subst h1
      have hc := h.cellAt i (by omega)
      rw [Nat.zero_add, hc, List.getElem?_map]
      show Option.map (Value.int k) zs[i]? = some (Value.int k (zs.getD i 0))
      simp [List.getD, hi]

theorem owns_block {w : World} {B : Nat} {e : TypeId} {size : Nat} {v : Value} {n : Nat} {xs : List Value} (h : w.ownsRow B e size v n xs) : ∀ k, v.ownBlock = some k → B ≤ k := by
  intro k hk
  rcases h.2 with ⟨h1, _⟩ | ⟨g, cap, cur, h1, hb, _⟩
  · subst h1; cases hk
  · subst h1
    simp [Value.ownBlock] at hk
    omega

theorem Row.lit (w : World) (k : IntKind) (zs : List Int) (t : TypeId) : Row (w.alloc (.cells (zs.map (Value.int k)).toArray t)) k (some ⟨w.heap.size, 0, none⟩) zs := by
  intro i hi
  refine ⟨w.heap.size, 0, rfl, by simp, ?_⟩
  rw [Nat.zero_add, World.cell?_alloc_at _ _ _ _ rfl]
  show (zs.map (Value.int k)).toArray[i]? = some (Value.int k (zs.getD i 0))
  simp [List.getD, hi]

/-- What lay below, reads as it did. -/
theorem bcell {B : Nat} {W w1 : World} (hb : Below B W w1) : (∀ b o, b < B → w1.cell? ⟨b, o, none⟩ = W.cell? ⟨b, o, none⟩) ∧ (∀ b o, b < B → w1.frozen? ⟨b, o, none⟩ = W.frozen? ⟨b, o, none⟩) :=
  ⟨fun b o h => hb.cell (p := ⟨b, o, none⟩) h, fun b o h => hb.frozen (p := ⟨b, o, none⟩) h⟩
end Go.Proofs.YtljdbaddockfcaaGreat.Pk

namespace Go.Proofs.YtljdbaddockfcaaGreat.Pk
open Go.RowKit
set_option linter.unusedVariables false
set_option linter.unusedSimpArgs false

/-- Of the blocks that there were, only those in X may have changed; blocks may have been made. -/
structure Touch (X : Nat → Prop) (w w' : World) : Prop where
  os : w'.os = w.os
  tape : w'.tape = w.tape
  output : w'.output = w.output
  size : w.heap.size ≤ w'.heap.size
  block : ∀ k, k < w.heap.size → ¬ X k → w'.heap[k]? = w.heap[k]?

theorem Touch.refl (X : Nat → Prop) (w : World) : Touch X w w := ⟨rfl, rfl, rfl, Nat.le_refl _, fun _ _ _ => rfl⟩
theorem Touch.trans {X : Nat → Prop} {a b c : World} (h : Touch X a b) (k : Touch X b c) : Touch X a c :=
  ⟨k.os.trans h.os, k.tape.trans h.tape, k.output.trans h.output, Nat.le_trans h.size k.size, fun i hi hx => (k.block i (Nat.lt_of_lt_of_le hi h.size) hx).trans (h.block i hi hx)⟩
theorem Touch.mono {X Y : Nat → Prop} {w w' : World} (h : Touch X w w') (hXY : ∀ k, k < w.heap.size → X k → Y k) : Touch Y w w' :=
  ⟨h.os, h.tape, h.output, h.size, fun k hk hy => h.block k hk fun hx => hy (hXY k hk hx)⟩
theorem Touch.of_below {X : Nat → Prop} {w w' : World} (h : Below w.heap.size w w') : Touch X w w' := ⟨h.os, h.tape, h.output, h.size, fun k hk _ => h.block k hk⟩
theorem Touch.below {X : Nat → Prop} {w w' : World} {B : Nat} (h : Touch X w w') (hX : ∀ k, X k → B ≤ k) (hB : B ≤ w.heap.size) : Below B w w' :=
  ⟨h.os, h.tape, h.output, h.size, fun k hk => h.block k (by omega) fun hx => by have := hX k hx; omega⟩
theorem Touch.alloc {X : Nat → Prop} {a w : World} (h : Touch X a w) (o : Obj) : Touch X a (w.alloc o) :=
  ⟨h.os, h.tape, h.output, by have := h.size; simp; omega, fun k hk hx => (Below.heap_alloc _ _ _ (Nat.lt_of_lt_of_le hk h.size)).trans (h.block k hk hx)⟩
theorem Touch.setCell {X : Nat → Prop} {a w : World} (h : Touch X a w) {p : Addr} (hp : p.block < a.heap.size → X p.block) (u : Value) : Touch X a (w.setCell p u) :=
  ⟨h.os, h.tape, h.output, by have := h.size; simpa [World.setCell] using this, fun k hk hx => (Below.heap_setCell _ _ _ _ (fun e => by subst e; exact hx (hp hk))).trans (h.block k hk hx)⟩
theorem Touch.drewN {X : Nat → Prop} {a w : World} (h : Touch X a w) (n : Nat) : Touch X a (w.drewN n) := ⟨h.os, h.tape, h.output, h.size, h.block⟩
theorem Touch.drew {X : Nat → Prop} {a w : World} (h : Touch X a w) : Touch X a w.drew := ⟨h.os, h.tape, h.output, h.size, h.block⟩
theorem Touch.cell {X : Nat → Prop} {w w' : World} (h : Touch X w w') {p : Addr} (hp : p.block < w.heap.size) (hx : ¬ X p.block) : w'.cell? p = w.cell? p := World.cell?_of_block (w := w) (h.block p.block hp hx)

theorem Touch.undrew {X : Nat → Prop} {w w' : World} (h : Touch X w.drew w') : Touch X w w' := ⟨h.os, h.tape, h.output, h.size, h.block⟩
/-- A block that is known whole, and may be written. -/
def Blk (w : World) (b : Nat) (cs : Array Value) (t : TypeId) : Prop := w.heap[b]? = some (.cells cs t (0, 0))
theorem Blk.lt {w : World} {b : Nat} {cs : Array Value} {t : TypeId} (h : Blk w b cs t) : b < w.heap.size := lt_of_block h
theorem Blk.cell {w : World} {b : Nat} {cs : Array Value} {t : TypeId} (h : Blk w b cs t) (i : Nat) {v : Value} (hv : cs[i]? = some v) : w.cell? ⟨b, i, none⟩ = some v := by
  unfold Blk at h
  simp [World.cell?, h, hv]
theorem Blk.free {w : World} {b : Nat} {cs : Array Value} {t : TypeId} (h : Blk w b cs t) (i : Nat) : w.frozen? ⟨b, i, none⟩ = false := by
  unfold Blk at h
  simp [World.frozen?, h]
theorem Blk.new (w : World) (cs : Array Value) (t : TypeId) : Blk (w.alloc (.cells cs t)) w.heap.size cs t := by
  show (w.heap.push _)[w.heap.size]? = _
  simp
theorem Blk.alloc {w : World} {b : Nat} {cs : Array Value} {t : TypeId} (h : Blk w b cs t) (o : Obj) : Blk (w.alloc o) b cs t := (Below.heap_alloc _ _ _ h.lt).trans h
theorem Blk.drewN {w : World} {b : Nat} {cs : Array Value} {t : TypeId} (h : Blk w b cs t) (n : Nat) : Blk (w.drewN n) b cs t := h
theorem Blk.drew {w : World} {b : Nat} {cs : Array Value} {t : TypeId} (h : Blk w b cs t) : Blk w.drew b cs t := h
theorem Blk.other {w : World} {b : Nat} {cs : Array Value} {t : TypeId} (h : Blk w b cs t) {p : Addr} (hp : p.block ≠ b) (v : Value) : Blk (w.setCell p v) b cs t := (Below.heap_setCell _ _ _ _ (Ne.symm hp)).trans h
theorem Blk.set {w : World} {b : Nat} {cs : Array Value} {t : TypeId} (h : Blk w b cs t) (i : Nat) (v : Value) : Blk (w.setCell ⟨b, i, none⟩ v) b (cs.setIfInBounds i v) t := by
  have hlt := h.lt
  unfold Blk at h
  have h' : w.heap[b] = .cells cs t (0, 0) := by simpa [Array.getElem?_eq_getElem hlt] using h
  show (w.heap.modify b _)[b]? = _
  rw [Array.getElem?_eq_getElem (by simpa using hlt), Array.getElem_modify_self, h']
  rfl
/-- .. and the cells written out. -/
theorem Blk.put {w : World} {b : Nat} {cs cs' : Array Value} {t : TypeId} (h : Blk w b cs t) (i : Nat) (v : Value) (e : cs.setIfInBounds i v = cs') : Blk (w.setCell ⟨b, i, none⟩ v) b cs' t := e ▸ h.set i v
theorem Blk.touch {X : Nat → Prop} {w w' : World} {b : Nat} {cs : Array Value} {t : TypeId} (h : Blk w b cs t) (k : Touch X w w') (hx : ¬ X b) : Blk w' b cs t := (k.block b h.lt hx).trans h
theorem Blk.below {w w' : World} {b B : Nat} {cs : Array Value} {t : TypeId} (h : Blk w b cs t) (k : Below B w w') (hb : b < B) : Blk w' b cs t := (k.block b hb).trans h
theorem Blk.later {w w' : World} {b : Nat} {cs : Array Value} {t : TypeId} (h : Blk w b cs t) (k : Below w.heap.size w w') : Blk w' b cs t := (k.block b h.lt).trans h

/-- A row of numbers in blocks that are none of these. -/
def RowOut (X : Nat → Prop) (a : Option Addr) (zs : List Int) : Prop := 0 < zs.length → ∀ b off, a = some ⟨b, off, none⟩ → ¬ X b
theorem Row.touch {X : Nat → Prop} {w w' : World} {k : IntKind} {a : Option Addr} {zs : List Int} (h : Row w k a zs) (t : Touch X w w') (hx : RowOut X a zs) : Row w' k a zs := by
  intro i hi
  obtain ⟨b, off, ha, hlt, hc⟩ := h i hi
  exact ⟨b, off, ha, Nat.lt_of_lt_of_le hlt t.size, (t.cell (p := ⟨b, off + i, none⟩) hlt (hx (by omega) b off ha)).trans hc⟩
theorem RowOut.mono {X Y : Nat → Prop} {a : Option Addr} {zs : List Int} (h : RowOut X a zs) (hXY : ∀ k, Y k → X k) : RowOut Y a zs := fun h0 b off ha hy => h h0 b off ha (hXY b hy)
/-- A row below a block number lies in none of the blocks from it on. -/
theorem Row.out {w : World} {k : IntKind} {a : Option Addr} {zs : List Int} (h : Row w k a zs) {X : Nat → Prop} (hX : ∀ k, X k → w.heap.size ≤ k) : RowOut X a zs := by
  intro h0 b off ha hx
  obtain ⟨b', off', ha', hlt, _⟩ := h 0 h0
  rw [ha] at ha'
  cases ha'
  have := hX b hx
  omega

end Go.Proofs.YtljdbaddockfcaaGreat.Pk

namespace Go.Proofs.YtljdbaddockfcaaGreat.Pk
open Go.RowKit
set_option linter.unusedVariables false
set_option linter.unusedSimpArgs false

/-- An array by its elements. -/
def arrV (f : Nat → Value) (n : Nat) : Array Value := ((List.range n).map f).toArray
theorem arrV_get {f : Nat → Value} {n i : Nat} (h : i < n) : (arrV f n)[i]? = some (f i) := by simp [arrV, h]
theorem arrV_set (f : Nat → Value) (n i : Nat) (v : Value) : (arrV f n).setIfInBounds i v = arrV (fun j => if j = i then v else f j) n := by
  unfold arrV
  apply Array.toList_inj.1
  rw [Array.toList_setIfInBounds]
  apply List.ext_getElem
  · simp
  · intro j h1 h2
    have hj : j < n := by simpa using h2
    simp [List.getElem_set]
    by_cases e : i = j
    · subst e; simp
    · have : ¬ j = i := fun h => e h.symm
      simp [e, this]
theorem arrV_congr {f g : Nat → Value} {n : Nat} (h : ∀ i, i < n → f i = g i) : arrV f n = arrV g n := by
  unfold arrV
  congr 1
  exact List.map_congr_left (fun i hi => h i (List.mem_range.1 hi))
theorem made_arr (z : Value) (hz : z.cells = #[z]) (n : Nat) : madeCells z.cells (n * 1) = arrV (fun _ => z) n := by
  unfold madeCells arrV
  have e : ∀ x : Nat, z.cells[x % z.cells.size]! = z := by
    intro x
    rw [hz]
    simp [Nat.mod_one]
  simp only [e]
  apply Array.ext <;> simp
theorem Blk.arr {w : World} {q : Nat} {f : Nat → Value} {n : Nat} {t : TypeId} (h : Blk w q (arrV f n) t) {i : Nat} (hi : i < n) : w.cell? ⟨q, i, none⟩ = some (f i) := h.cell i (arrV_get hi)
end Go.Proofs.YtljdbaddockfcaaGreat.Pk

namespace Go.Proofs.YtljdbaddockfcaaGreat.Pk
open Go.RowKit
set_option linter.unusedVariables false
set_option linter.unusedSimpArgs false

/-- A row that fills the beginning of a block. -/
def OwnR (w : World) (k : IntKind) (a : Option Addr) (zs : List Int) : Prop :=
  zs.length = 0 ∨ ∃ b cs t, a = some ⟨b, 0, none⟩ ∧ Blk w b cs t ∧ ∀ i, i < zs.length → cs[i]? = some (.int k (nth zs i))
theorem OwnR.row {w : World} {k : IntKind} {a : Option Addr} {zs : List Int} (h : OwnR w k a zs) : Row w k a zs := by
  intro i hi
  rcases h with h | ⟨b, cs, t, rfl, hb, hc⟩
  · omega
  · exact ⟨b, 0, rfl, hb.lt, by rw [Nat.zero_add]; exact hb.cell i (hc i hi)⟩
theorem OwnR.later {w w' : World} {k : IntKind} {a : Option Addr} {zs : List Int} (h : OwnR w k a zs) (hb : Below w.heap.size w w') : OwnR w' k a zs := by
  rcases h with h | ⟨b, cs, t, rfl, hk, hc⟩
  · exact .inl h
  · exact .inr ⟨b, cs, t, rfl, hk.later hb, hc⟩
theorem OwnR.drw {w w' : World} {k : IntKind} {a : Option Addr} {zs : List Int} (h : OwnR w k a zs) (hb : Drw w w') : OwnR w' k a zs := h.later hb.new
theorem OwnR.alloc {w : World} {k : IntKind} {a : Option Addr} {zs : List Int} (h : OwnR w k a zs) (o : Obj) : OwnR (w.alloc o) k a zs := h.later (below_new w o)
theorem OwnR.touch {X : Nat → Prop} {w w' : World} {k : IntKind} {a : Option Addr} {zs : List Int} (h : OwnR w k a zs) (t : Touch X w w') (hx : RowOut X a zs) : OwnR w' k a zs := by
  rcases h with h | ⟨b, cs, t', rfl, hk, hc⟩
  · exact .inl h
  · by_cases h0 : zs.length = 0
    · exact .inl h0
    · exact .inr ⟨b, cs, t', rfl, hk.touch t (hx (by omega) b 0 rfl), hc⟩
/-- One of its numbers is written. -/
theorem OwnR.set {w : World} {k : IntKind} {zs : List Int} {b i : Nat} (h : OwnR w k (some ⟨b, 0, none⟩) zs) (hi : i < zs.length) (v : Int) : OwnR (w.setCell ⟨b, i, none⟩ (.int k v)) k (some ⟨b, 0, none⟩) (zs.set i v) := by
  rcases h with h | ⟨b', cs, t, e, hk, hc⟩
  · omega
  · cases e
    refine .inr ⟨b, _, t, rfl, hk.set i (.int k v), fun j hj => ?_⟩
    have hj' : j < zs.length := by simpa using hj
    have hcj := hc j hj'
    have hjs : j < cs.size := (Array.getElem?_eq_some_iff.1 hcj).1
    by_cases e : j = i
    · subst e
      rw [Array.getElem?_setIfInBounds_self_of_lt hjs]
      unfold nth; simp [List.getD, hi]
    · rw [Array.getElem?_setIfInBounds_ne (fun h => e h.symm), hcj]
      unfold nth
      rw [List.getD_eq_getElem?_getD, List.getD_eq_getElem?_getD, List.getElem?_set_ne (fun h => e h.symm)]
theorem OwnR.at {w : World} {k : IntKind} {a : Option Addr} {zs : List Int} (h : OwnR w k a zs) {i : Nat} (hi : i < zs.length) : ∃ b, a = some ⟨b, 0, none⟩ ∧ b < w.heap.size ∧ w.cell? ⟨b, i, none⟩ = some (.int k (nth zs i)) ∧ w.frozen? ⟨b, i, none⟩ = false := by
  rcases h with h | ⟨b, cs, t, rfl, hk, hc⟩
  · omega
  · exact ⟨b, rfl, hk.lt, hk.cell i (hc i hi), hk.free i⟩
theorem OwnR.of_owns {w : World} {B : Nat} {e : TypeId} {k : IntKind} {v : Value} {zs : List Int} (h : w.ownsRow B e 1 v zs.length (zs.map (Value.int k))) : ∃ a cap, v = .slice a zs.length cap ∧ OwnR w k a zs := by
  rcases h.2 with ⟨h1, h2⟩ | ⟨g, cap, cur, h1, _, hg, _, _, _, ht⟩
  · exact ⟨none, 0, by rw [h1, h2], .inl h2⟩
  · refine ⟨some ⟨g, 0, none⟩, cap, h1, .inr ⟨g, cur, e, rfl, hg, fun i hi => ?_⟩⟩
    have : (cur.toList.take (zs.length * 1))[i]? = (zs.map (Value.int k))[i]? := by rw [ht]
    rw [List.getElem?_take, if_pos (by omega), List.getElem?_map] at this
    rw [← Array.getElem?_toList, this]
    unfold nth
    simp [List.getD, hi]

end Go.Proofs.YtljdbaddockfcaaGreat.Pk

namespace Go.Proofs.YtljdbaddockfcaaGreat.Pk
open Go.RowKit
set_option linter.unusedVariables false
set_option linter.unusedSimpArgs false

end Go.Proofs.YtljdbaddockfcaaGreat.Pk

/-
  RatMath: Plain facts on numbers that stop at a bound: no program in sight.
  PlanMath: Plain facts on configurations and their numbers: no program in sight.
-/

namespace Go.Proofs.YtljdbaddockfcaaGreat.Pk
open Go.RowKit
set_option linter.unusedVariables false
set_option linter.unusedSimpArgs false

/-- A number between two others. -/
def clampI (n lo hi : Int) : Int := if hi < n then hi else if n < lo then lo else n
/-- What a number counts as. -/
def cnt (n : Int) : Int := clampI n 0 1125899906842624
/-- What one divides by. -/
def byI (n : Int) : Int := if cnt n = 0 then 1 else cnt n
/-- A product of two numbers that stops at the bound. -/
def timesI (a b : Int) : Int := if 0 < b ∧ 1125899906842624 / b < a then 1125899906842624 else a * b
def downI (a b : Int) : Int := cnt a / byI b
def upI (a b : Int) : Int := (cnt a + byI b - 1) / byI b
theorem cnt_bd (n : Int) : 0 ≤ cnt n ∧ cnt n ≤ 1125899906842624 := by
  unfold cnt clampI; split
  · omega
  · split <;> omega
theorem cnt_id {n : Int} (h0 : 0 ≤ n) (h1 : n ≤ 1125899906842624) : cnt n = n := by
  unfold cnt clampI; rw [if_neg (by omega), if_neg (by omega)]
theorem cnt_lo {n : Int} (h1 : n ≤ 0) : cnt n = 0 := by
  unfold cnt clampI; rw [if_neg (by omega)]; split
  · rfl
  · omega
theorem cnt_min (n : Int) : cnt n = max 0 (min n 1125899906842624) := by
  unfold cnt clampI; split
  · omega
  · split <;> omega
theorem byI_bd (n : Int) : 1 ≤ byI n ∧ byI n ≤ 1125899906842624 := by
  have := cnt_bd n
  unfold byI; split <;> omega
theorem byI_max (n : Int) : byI n = max (cnt n) 1 := by
  have := cnt_bd n
  unfold byI; split <;> omega
theorem times_min {a b : Int} (ha : 0 ≤ a) (hb : 0 ≤ b) (ha2 : a ≤ 1125899906842624) (hb2 : b ≤ 1125899906842624) : timesI a b = min 1125899906842624 (a * b) := by
  unfold timesI
  by_cases h : 0 < b ∧ 1125899906842624 / b < a
  · rw [if_pos h]
    have h1 := Int.emod_add_mul_ediv 1125899906842624 b
    have h2 := Int.emod_lt_of_pos 1125899906842624 h.1
    have h3 : b * (1125899906842624 / b + 1) ≤ b * a := Int.mul_le_mul_of_nonneg_left (by omega) hb
    rw [Int.mul_add, Int.mul_comm b a] at h3
    omega
  · rw [if_neg h]
    by_cases hb0 : b = 0
    · subst hb0; rw [Int.mul_zero]; decide
    · have hp : 0 < b := by omega
      have h4 : a ≤ 1125899906842624 / b := by
        by_cases h5 : 1125899906842624 / b < a
        · exact absurd ⟨hp, h5⟩ h
        · omega
      have h5 : b * a ≤ b * (1125899906842624 / b) := Int.mul_le_mul_of_nonneg_left h4 hb
      have h6 := Int.mul_ediv_self_le (x := 1125899906842624) (k := b) (by omega)
      rw [Int.mul_comm b a] at h5
      omega
theorem times_bd {a b : Int} (ha : 0 ≤ a) (hb : 0 ≤ b) (ha2 : a ≤ 1125899906842624) (hb2 : b ≤ 1125899906842624) : 0 ≤ timesI a b ∧ timesI a b ≤ 1125899906842624 := by
  rw [times_min ha hb ha2 hb2]
  have := Int.mul_nonneg ha hb
  omega

/-! ### Sums and products of lists -/
def addL (l : List Int) : Int := l.foldl (fun s n => cnt (s + cnt n)) 0
def mulL (l : List Int) : Int := l.foldl (fun s n => timesI s (cnt n)) 1
/-- The k first numbers' sum, and product. -/
def addTo (l : List Int) (k : Nat) : Int := addL (l.take k)
def mulTo (l : List Int) (k : Nat) : Int := mulL (l.take k)
theorem take_nth {l : List Int} {k : Nat} (h : k < l.length) : l.take (k + 1) = l.take k ++ [nth l k] := by
  rw [List.take_succ_eq_append_getElem h]; unfold nth; simp [List.getD, h]
theorem addTo_succ {l : List Int} {k : Nat} (h : k < l.length) : addTo l (k + 1) = cnt (addTo l k + cnt (nth l k)) := by
  unfold addTo addL; rw [take_nth h, List.foldl_append]; rfl
theorem addTo_all (l : List Int) : addTo l l.length = addL l := by unfold addTo; rw [List.take_length]
theorem mulTo_succ {l : List Int} {k : Nat} (h : k < l.length) : mulTo l (k + 1) = timesI (mulTo l k) (cnt (nth l k)) := by
  unfold mulTo mulL; rw [take_nth h, List.foldl_append]; rfl
theorem mulTo_all (l : List Int) : mulTo l l.length = mulL l := by unfold mulTo; rw [List.take_length]

/-- The sum, the product, with no bound. -/
def sumC : List Int → Int
  | [] => 0
  | n :: l => cnt n + sumC l
def prodC : List Int → Int
  | [] => 1
  | n :: l => cnt n * prodC l
theorem sumC_nn (l : List Int) : 0 ≤ sumC l := by
  induction l with
  | nil => exact Int.le_refl _
  | cons n l ih => have := cnt_bd n; show 0 ≤ cnt n + sumC l; omega
theorem prodC_nn (l : List Int) : 0 ≤ prodC l := by
  induction l with
  | nil => decide
  | cons n l ih => exact Int.mul_nonneg (cnt_bd n).1 ih
theorem sumC_append (l m : List Int) : sumC (l ++ m) = sumC l + sumC m := by
  induction l with
  | nil => show sumC m = 0 + sumC m; omega
  | cons n l ih => show cnt n + sumC (l ++ m) = cnt n + sumC l + sumC m; rw [ih]; omega
theorem prodC_append (l m : List Int) : prodC (l ++ m) = prodC l * prodC m := by
  induction l with
  | nil => show prodC m = 1 * prodC m; omega
  | cons n l ih => show cnt n * prodC (l ++ m) = cnt n * prodC l * prodC m; rw [ih, Int.mul_assoc]
theorem sumC_one (n : Int) : sumC [n] = cnt n := by show cnt n + 0 = cnt n; omega
theorem prodC_one (n : Int) : prodC [n] = cnt n := by show cnt n * 1 = cnt n; omega
theorem addL_sum (l : List Int) : addL l = min 1125899906842624 (sumC l) := by
  have h : ∀ k, k ≤ l.length → addTo l k = min 1125899906842624 (sumC (l.take k)) := by
    intro k
    induction k with
    | zero => intro _; rfl
    | succ k ih =>
      intro hk
      rw [addTo_succ hk, ih (by omega), take_nth hk, sumC_append, sumC_one, cnt_min]
      have h1 := sumC_nn (l.take k)
      have h2 := cnt_bd (nth l k)
      omega
  have := h l.length (Nat.le_refl _)
  rwa [addTo_all, List.take_length] at this
theorem addL_bd (l : List Int) : 0 ≤ addL l ∧ addL l ≤ 1125899906842624 := by
  rw [addL_sum]; have := sumC_nn l; omega
theorem addTo_bd (l : List Int) (k : Nat) : 0 ≤ addTo l k ∧ addTo l k ≤ 1125899906842624 := addL_bd _
theorem min_mul {p c : Int} (hp : 0 ≤ p) (hc : 0 ≤ c) : min 1125899906842624 (min 1125899906842624 p * c) = min 1125899906842624 (p * c) := by
  by_cases h : p ≤ 1125899906842624
  · rw [show min 1125899906842624 p = p by omega]
  · rw [show min 1125899906842624 p = 1125899906842624 by omega]
    by_cases h0 : c = 0
    · subst h0; rw [Int.mul_zero, Int.mul_zero]
    · have h1 : 1125899906842624 * 1 ≤ 1125899906842624 * c := Int.mul_le_mul_of_nonneg_left (by omega) (by decide)
      have h2 : 1125899906842624 * c ≤ p * c := Int.mul_le_mul_of_nonneg_right (by omega) hc
      omega
theorem mulTo_prod (l : List Int) : ∀ k, k ≤ l.length → mulTo l k = min 1125899906842624 (prodC (l.take k)) := by
  intro k
  induction k with
  | zero => intro _; rfl
  | succ k ih =>
    intro hk
    have h1 := prodC_nn (l.take k)
    have h2 := cnt_bd (nth l k)
    rw [mulTo_succ hk, ih (by omega), take_nth hk, prodC_append, prodC_one, times_min (by omega) h2.1 (by omega) h2.2, min_mul h1 h2.1]
theorem mulL_prod (l : List Int) : mulL l = min 1125899906842624 (prodC l) := by
  have := mulTo_prod l l.length (Nat.le_refl _)
  rwa [mulTo_all, List.take_length] at this
theorem mulL_bd (l : List Int) : 0 ≤ mulL l ∧ mulL l ≤ 1125899906842624 := by
  rw [mulL_prod]; have := prodC_nn l; omega
theorem mulTo_bd (l : List Int) (k : Nat) : 0 ≤ mulTo l k ∧ mulTo l k ≤ 1125899906842624 := mulL_bd _
theorem addL_snoc (l : List Int) (n : Int) : addL (l ++ [n]) = cnt (addL l + cnt n) := by
  unfold addL; rw [List.foldl_append]; rfl
theorem addL_two (a b : Int) : addL [a, b] = cnt (cnt a + cnt b) := by
  show cnt (cnt (0 + cnt a) + cnt b) = _
  rw [Int.zero_add, cnt_id (cnt_bd a).1 (cnt_bd a).2]
theorem mulL_two (a b : Int) : mulL [a, b] = timesI (cnt a) (cnt b) := by
  show timesI (timesI 1 (cnt a)) (cnt b) = _
  rw [times_min (by decide) (cnt_bd a).1 (by decide) (cnt_bd a).2, Int.one_mul]
  have := cnt_bd a
  rw [show min 1125899906842624 (cnt a) = cnt a by omega]
/-! ### Least -/
end Go.Proofs.YtljdbaddockfcaaGreat.Pk

namespace Go.Proofs.YtljdbaddockfcaaGreat.Pk
open Go.RowKit
set_option linter.unusedVariables false
set_option linter.unusedSimpArgs false

/-- May a configuration be? -/
def mayB (N W R K : Int) : Bool := decide (1 ≤ N ∧ N ≤ 1048576 ∧ 16 ≤ W ∧ W ≤ 256 ∧ 1 ≤ R ∧ R ≤ 4096 ∧ 1 ≤ K ∧ K ≤ 65536 ∧ N * W ≤ 4194304)
structure May (N W R K : Int) : Prop where
  n0 : 1 ≤ N
  n1 : N ≤ 1048576
  w0 : 16 ≤ W
  w1 : W ≤ 256
  r0 : 1 ≤ R
  r1 : R ≤ 4096
  k0 : 1 ≤ K
  k1 : K ≤ 65536
  nw : N * W ≤ 4194304
theorem mayB_mk {N W R K : Int} (h : May N W R K) : mayB N W R K = true := decide_eq_true ⟨h.n0, h.n1, h.w0, h.w1, h.r0, h.r1, h.k0, h.k1, h.nw⟩
theorem not_may {N W R K : Int} (h : mayB N W R K = false) : ¬ May N W R K := fun h' => by rw [mayB_mk h'] at h; cases h

theorem clamp_in {n lo hi : Int} (h0 : lo ≤ n) (h1 : n ≤ hi) : clampI n lo hi = n := by
  unfold clampI; rw [if_neg (by omega), if_neg (by omega)]
theorem clamp_bd {n lo hi : Int} (h : lo ≤ hi) : lo ≤ clampI n lo hi ∧ clampI n lo hi ≤ hi := by
  unfold clampI; split
  · omega
  · split <;> omega
theorem clamp_out {n lo hi : Int} (h : lo ≤ hi) (h1 : n < lo ∨ hi < n) : clampI n lo hi ≠ n := by
  have := clamp_bd (n := n) h
  omega

theorem add2_id {a b : Int} (ha : 0 ≤ a) (hb : 0 ≤ b) (h : a + b ≤ 1125899906842624) : addL [a, b] = a + b := by
  rw [addL_two, cnt_id ha (by omega), cnt_id hb (by omega), cnt_id (by omega) h]
theorem add3_id {a b c : Int} (ha : 0 ≤ a) (hb : 0 ≤ b) (hc : 0 ≤ c) (h : a + b + c ≤ 1125899906842624) : addL [a, b, c] = a + b + c := by
  have := addL_snoc [a, b] c
  rw [show [a, b] ++ [c] = [a, b, c] from rfl, add2_id ha hb (by omega), cnt_id hc (by omega), cnt_id (by omega) h] at this
  exact this
theorem mul2_id {a b : Int} (ha : 0 ≤ a) (hb : 0 ≤ b) (h1 : a ≤ 1125899906842624) (h2 : b ≤ 1125899906842624) (h : a * b ≤ 1125899906842624) : mulL [a, b] = a * b := by
  rw [mulL_two, cnt_id ha h1, cnt_id hb h2, times_min ha hb h1 h2]
  omega
theorem up_id {a b : Int} (ha : 0 ≤ a) (h1 : a ≤ 1125899906842624) (hb : 1 ≤ b) (h2 : b ≤ 1125899906842624) : upI a b = (a + b - 1) / b := by
  have e : byI b = b := by unfold byI; rw [cnt_id (by omega) h2, if_neg (by omega)]
  unfold upI
  rw [e, cnt_id ha h1]

/-! ### The numbers -/
def wordsI (N W R : Int) : Int := 24 + R + N * W
def drainI (N W : Int) : Int := N * (W + 1)
def epochI (N W : Int) : Int := 3 * (N * (W + 1)) + 4
def fieldsI (W : Int) : Int := (W - 8) * (W - 1)
def upP (a b : Int) : Int := (a + b - 1) / b
def lagI (N W K : Int) : Int := 2 * upP (epochI N W) K + 2 * (W - 7)
def settleI (N W K : Int) : Int := upP (2 * epochI N W + drainI N W) K + 2

theorem mul_le_of {a b A B : Int} (ha : 0 ≤ a) (hb : 0 ≤ b) (h1 : a ≤ A) (h2 : b ≤ B) : 0 ≤ a * b ∧ a * b ≤ A * B :=
  ⟨Int.mul_nonneg ha hb, Int.mul_le_mul h1 h2 hb (by omega)⟩
theorem nw_bd {N W R K : Int} (h : May N W R K) : 16 ≤ N * W ∧ N * W ≤ 4194304 := by
  have := Int.mul_le_mul h.n0 h.w0 (by omega) (by have := h.n0; omega)
  exact ⟨by omega, h.nw⟩
theorem drain_eq (N W : Int) : drainI N W = N * W + N := by unfold drainI; rw [Int.mul_add]; omega
theorem drain_bd {N W R K : Int} (h : May N W R K) : 17 ≤ drainI N W ∧ drainI N W ≤ 5242880 := by
  have := nw_bd h
  have := h.n0; have := h.n1
  rw [drain_eq]; omega
theorem epoch_eq (N W : Int) : epochI N W = 3 * drainI N W + 4 := rfl
theorem epoch_bd {N W R K : Int} (h : May N W R K) : 55 ≤ epochI N W ∧ epochI N W ≤ 15728644 := by
  have := drain_bd h
  rw [epoch_eq]; omega
theorem fields_bd {W : Int} (h0 : 16 ≤ W) (h1 : W ≤ 256) : 120 ≤ fieldsI W ∧ fieldsI W ≤ 63240 := by
  have a := Int.mul_le_mul (show (8 : Int) ≤ W - 8 by omega) (show (15 : Int) ≤ W - 1 by omega) (by omega) (by omega)
  have b := Int.mul_le_mul (show W - 8 ≤ 248 by omega) (show W - 1 ≤ 255 by omega) (by omega) (by omega)
  unfold fieldsI; omega
theorem upP_bd {a b : Int} (ha : 0 ≤ a) (hb : 1 ≤ b) : 0 ≤ upP a b ∧ upP a b ≤ a ∧ a ≤ b * upP a b ∧ b * upP a b < a + b := by
  unfold upP
  have h1 := Int.emod_add_mul_ediv (a + b - 1) b
  have h2 := Int.emod_nonneg (a + b - 1) (show b ≠ 0 by omega)
  have h3 := Int.emod_lt_of_pos (a + b - 1) (show 0 < b by omega)
  have h4 : 0 ≤ (a + b - 1) / b := Int.ediv_nonneg (by omega) (by omega)
  refine ⟨h4, ?_, by omega, by omega⟩
  by_cases h5 : a = 0
  · subst h5
    have : (0 + b - 1) / b = 0 := Int.ediv_eq_zero_of_lt (by omega) (by omega)
    omega
  · have h6 : (a + b - 1) / b < a + 1 := by
      apply Int.ediv_lt_of_lt_mul (by omega)
      have h7 : a * 1 ≤ a * b := Int.mul_le_mul_of_nonneg_left hb ha
      have : (a + 1) * b = a * b + b := by rw [Int.add_mul]; omega
      omega
    omega
/-! ### With more units for each block -/
/-! ### Half -/
end Go.Proofs.YtljdbaddockfcaaGreat.Pk

/-
  PkMath: Plain facts on pieces of 32-bit words, sums of widths, and numbers of ones: no program in sight.
  Pack: What the functions of package pack that take no slices return, whatever they are given.
  RefPack: What the document's functions on pieces of words return, whatever they are given: the same as the program's.
  PackTab: What the functions of package pack that take slices return, and the document's.
  PackJoin: What Join returns: the program's, and the document's.
  PackSplit: What Split returns: the program's, and the document's; and the document's Same.
  PackAny: One contract for each function on pieces, whatever it is given: the program's and the document's end alike.
-/

namespace Go.Proofs.YtljdbaddockfcaaGreat.Pk
open Go.RowKit
set_option linter.unusedVariables false
set_option linter.unusedSimpArgs false

/-- 2 to the n. -/
def pw (n : Int) : Int := 2 ^ n.toNat
theorem pw_pos (n : Int) : 0 < pw n := Int.pow_pos (by decide)
/-- Is there such a piece? -/
def pieceB (at' n : Int) : Bool := decide (0 ≤ at' ∧ 1 ≤ n ∧ n ≤ 32 ∧ at' ≤ 32 - n)
theorem pieceB_yes {a n : Int} (h : pieceB a n = true) : 0 ≤ a ∧ 1 ≤ n ∧ n ≤ 32 ∧ a ≤ 32 - n := of_decide_eq_true h
theorem pieceB_no {a n : Int} (h : pieceB a n = false) : ¬ (0 ≤ a ∧ 1 ≤ n ∧ n ≤ 32 ∧ a ≤ 32 - n) := of_decide_eq_false h
/-- A piece's number. -/
def getI (w a n : Int) : Int := if pieceB a n = true then w / pw a % pw n else 0
/-- Does v fit n bits? -/
def fitB (v n : Int) : Bool := decide (v < pw n)
/-- A word with another piece. -/
def putI (w a n v : Int) : Int := w - getI w a n * pw a + v * pw a

theorem pw_le {m n : Int} (h : m ≤ n) : pw m ≤ pw n := by
  unfold pw
  have h1 : m.toNat ≤ n.toNat := by omega
  have := Nat.pow_le_pow_right (n := 2) (by decide) h1
  exact_mod_cast this
theorem pw_add {m n : Int} (hm : 0 ≤ m) (hn : 0 ≤ n) : pw (m + n) = pw m * pw n := by
  unfold pw
  rw [Int.toNat_add hm hn, Int.pow_add]
theorem pw_32 : pw 32 = 4294967296 := by decide
theorem pw_0 : pw 0 = 1 := by decide
theorem pw_neg {n : Int} (h : n ≤ 0) : pw n = 1 := by
  unfold pw
  have : n.toNat = 0 := by omega
  rw [this]; rfl
theorem pw_le32 {n : Int} (h : n ≤ 32) : pw n ≤ 4294967296 := by rw [← pw_32]; exact pw_le h
theorem pw_ge32 {n : Int} (h : 32 ≤ n) : 4294967296 ≤ pw n := by rw [← pw_32]; exact pw_le h
theorem lo_mask {n : Int} (h1 : 1 ≤ n) (h2 : n ≤ 32) : (4294967295 : Int) / 2 ^ (32 - n).toNat = pw n - 1 := by
  have e : pw n * pw (32 - n) = 4294967296 := by
    rw [← pw_add (by omega) (by omega), show n + (32 - n) = 32 by omega, pw_32]
  have hp := pw_pos (32 - n)
  have hq := pw_pos n
  show (4294967295 : Int) / pw (32 - n) = pw n - 1
  have e2 : (4294967295 : Int) = (pw (32 - n) - 1) + (pw n - 1) * pw (32 - n) := by
    rw [Int.sub_mul, e]; omega
  rw [e2, Int.add_mul_ediv_right _ _ (by omega), Int.ediv_eq_zero_of_lt (by omega) (by omega)]
  omega

theorem getI_lo {w a n : Int} (h0 : 0 ≤ w) : 0 ≤ getI w a n := by
  unfold getI; split
  · exact Int.emod_nonneg _ (by have := pw_pos n; omega)
  · exact Int.le_refl _
theorem getI_lt {w a n : Int} : getI w a n < pw n := by
  unfold getI; split
  · exact Int.emod_lt_of_pos _ (pw_pos n)
  · exact pw_pos n
theorem getI_hi {w a n : Int} (h0 : 0 ≤ w) (h1 : w ≤ 4294967295) : getI w a n ≤ 4294967295 := by
  by_cases hp : pieceB a n = true
  · have h := pieceB_yes hp
    have := getI_lt (w := w) (a := a) (n := n)
    have := pw_le32 h.2.2.1
    omega
  · have : getI w a n = 0 := by unfold getI; rw [if_neg hp]
    omega

theorem get_and {w a n : Int} (h0 : 0 ≤ w) (h1 : w ≤ 4294967295) (hp : pieceB a n = true) :
    bits .and .u32 (w / 2 ^ a.toNat) (pw n - 1) = getI w a n := by
  obtain ⟨ha, hn1, hn2, hd⟩ := pieceB_yes hp
  have hle : w / pw a ≤ w := Int.ediv_le_self _ h0
  have hge : 0 ≤ w / pw a := Int.ediv_nonneg h0 (Int.le_of_lt (pw_pos a))
  have hm := pw_le32 hn2
  have hp0 := pw_pos n
  show bits .and .u32 (w / pw a) (pw n - 1) = _
  rw [u32_and _ _ hge (by omega) (by omega) (by omega)]
  unfold getI
  rw [if_pos hp]
  obtain ⟨X, hX⟩ := Int.eq_ofNat_of_zero_le hge
  rw [hX]
  have e : (pw n - 1).toNat = 2 ^ n.toNat - 1 := by
    unfold pw
    have : ((2 : Int) ^ n.toNat) = ((2 ^ n.toNat : Nat) : Int) := by simp
    rw [this]; omega
  rw [e, Int.toNat_natCast, Nat.and_two_pow_sub_one_eq_mod]
  unfold pw
  simp

theorem split_word (w a n : Nat) : w = (w / 2 ^ (a + n)) * 2 ^ (a + n) + (w / 2 ^ a % 2 ^ n) * 2 ^ a + w % 2 ^ a := by
  have h1 := Nat.div_add_mod w (2 ^ a)
  have h2 := Nat.div_add_mod (w / 2 ^ a) (2 ^ n)
  rw [Nat.div_div_eq_div_mul, ← Nat.pow_add] at h2
  have h3 : 2 ^ a * (2 ^ n * (w / 2 ^ (a + n))) = w / 2 ^ (a + n) * 2 ^ (a + n) := by
    rw [Nat.pow_add, ← Nat.mul_assoc, Nat.mul_comm]
  have h4 : 2 ^ a * (w / 2 ^ a) = 2 ^ a * (2 ^ n * (w / 2 ^ (a + n))) + 2 ^ a * (w / 2 ^ a % 2 ^ n) := by
    rw [← Nat.mul_add, h2]
  have h5 : 2 ^ a * (w / 2 ^ a % 2 ^ n) = w / 2 ^ a % 2 ^ n * 2 ^ a := Nat.mul_comm _ _
  omega

/-- The bits of a word with another piece, in the program's way. -/
theorem put_nat (w a n v : Nat) (hv : v < 2 ^ n) (hw : w < 2 ^ 32) (hn : a + n ≤ 32) :
    (w &&& (4294967295 - (2 ^ n - 1) * 2 ^ a)) ||| v * 2 ^ a = (w / 2 ^ (a + n)) * 2 ^ (a + n) + v * 2 ^ a + w % 2 ^ a := by
  have hmul : (2 ^ n - 1) * 2 ^ a < 2 ^ 32 := by
    have h1 : (2 ^ n - 1) * 2 ^ a < 2 ^ n * 2 ^ a := Nat.mul_lt_mul_of_pos_right (by have := Nat.two_pow_pos n; omega) (Nat.two_pow_pos a)
    rw [← Nat.pow_add] at h1
    exact Nat.lt_of_lt_of_le h1 (Nat.pow_le_pow_right (by decide) (by omega))
  have hlow : v * 2 ^ a + w % 2 ^ a < 2 ^ (a + n) := by
    have h1 : (v + 1) * 2 ^ a ≤ 2 ^ n * 2 ^ a := Nat.mul_le_mul_right _ hv
    rw [Nat.add_mul, Nat.one_mul] at h1
    have h2 := Nat.mod_lt w (Nat.two_pow_pos a)
    rw [Nat.pow_add, Nat.mul_comm (2 ^ a)]
    omega
  apply Nat.eq_of_testBit_eq
  intro j
  have e1 : (4294967295 - (2 ^ n - 1) * 2 ^ a) = 2 ^ 32 - ((2 ^ n - 1) * 2 ^ a + 1) := by omega
  rw [Nat.testBit_or, Nat.testBit_and, e1, Nat.testBit_two_pow_sub_succ hmul]
  rw [Nat.add_assoc, Nat.mul_comm (w / 2 ^ (a + n)), Nat.testBit_two_pow_mul_add _ hlow, Nat.mul_comm v, Nat.testBit_two_pow_mul_add _ (Nat.mod_lt w (Nat.two_pow_pos a))]
  rw [Nat.mul_comm (2 ^ n - 1), Nat.testBit_two_pow_mul, Nat.testBit_two_pow_mul, Nat.testBit_two_pow_sub_one, Nat.testBit_mod_two_pow, Nat.testBit_div_two_pow]
  by_cases hj : j < a
  · have h1 : ¬ a ≤ j := by omega
    have h2 : j < a + n := by omega
    have h3 : j < 32 := by omega
    simp [hj, h1, h2, h3]
  · by_cases hj2 : j < a + n
    · have h1 : a ≤ j := by omega
      have h2 : j - a < n := by omega
      simp [hj, hj2, h1, h2]
    · have h1 : a ≤ j := by omega
      have h2 : ¬ j - a < n := by omega
      have h3 : v.testBit (j - a) = false := by
        apply Nat.testBit_lt_two_pow
        exact Nat.lt_of_lt_of_le hv (Nat.pow_le_pow_right (by decide) (by omega))
      have h4 : a + n + (j - (a + n)) = j := by omega
      have h6 : j - (a + n) + (a + n) = j := by omega
      by_cases h5 : j < 32
      · simp [hj, hj2, h1, h2, h3, h4, h5, h6]
      · have hwj : w.testBit j = false := by
          apply Nat.testBit_lt_two_pow
          exact Nat.lt_of_lt_of_le hw (Nat.pow_le_pow_right (by decide) (by omega))
        simp [hj, hj2, h1, h2, h3, h4, h5, h6, hwj]

theorem put_or {w a n v : Int} (h0 : 0 ≤ w) (h1 : w ≤ 4294967295) (hv0 : 0 ≤ v) (hp : pieceB a n = true) (hf : fitB v n = true) :
    bits .or .u32 (bits .andNot .u32 w (IntKind.u32.wrap ((pw n - 1) * 2 ^ a.toNat))) (IntKind.u32.wrap (v * 2 ^ a.toNat)) = putI w a n v := by
  obtain ⟨ha, hn1, hn2, hd⟩ := pieceB_yes hp
  have hv : v < pw n := of_decide_eq_true hf
  obtain ⟨A, rfl⟩ := Int.eq_ofNat_of_zero_le ha
  obtain ⟨N, rfl⟩ := Int.eq_ofNat_of_zero_le (by omega : 0 ≤ n)
  obtain ⟨W, rfl⟩ := Int.eq_ofNat_of_zero_le h0
  obtain ⟨V, rfl⟩ := Int.eq_ofNat_of_zero_le hv0
  have eN : pw (N : Int) = ((2 ^ N : Nat) : Int) := by unfold pw; simp
  have eA : pw (A : Int) = ((2 ^ A : Nat) : Int) := by unfold pw; simp
  have eA2 : (2 : Int) ^ (A : Int).toNat = ((2 ^ A : Nat) : Int) := by simp
  have hV : V < 2 ^ N := by rw [eN] at hv; exact_mod_cast hv
  have hs : A + N ≤ 32 := by omega
  have hW : W < 2 ^ 32 := by omega
  have hpos := Nat.two_pow_pos N
  have eM : (pw (N : Int) - 1) * 2 ^ (A : Int).toNat = (((2 ^ N - 1) * 2 ^ A : Nat) : Int) := by
    rw [eN, eA2, Int.natCast_mul, Int.natCast_sub hpos]; simp
  have eV : (V : Int) * 2 ^ (A : Int).toNat = ((V * 2 ^ A : Nat) : Int) := by rw [eA2, Int.natCast_mul]
  have bM : (2 ^ N - 1) * 2 ^ A < 2 ^ 32 := by
    have h1 : (2 ^ N - 1) * 2 ^ A < 2 ^ N * 2 ^ A := Nat.mul_lt_mul_of_pos_right (by omega) (Nat.two_pow_pos A)
    rw [← Nat.pow_add] at h1
    exact Nat.lt_of_lt_of_le h1 (Nat.pow_le_pow_right (by decide) (by omega))
  have bV : V * 2 ^ A < 2 ^ 32 := by
    have h1 : V * 2 ^ A < 2 ^ N * 2 ^ A := Nat.mul_lt_mul_of_pos_right hV (Nat.two_pow_pos A)
    rw [← Nat.pow_add] at h1
    exact Nat.lt_of_lt_of_le h1 (Nat.pow_le_pow_right (by decide) (by omega))
  rw [eM, eV, IntKind.wrap_u32, IntKind.wrap_u32]
  rw [show ((((2 ^ N - 1) * 2 ^ A : Nat) : Int)) % 4294967296 = (((2 ^ N - 1) * 2 ^ A : Nat) : Int) from by omega]
  rw [show ((V * 2 ^ A : Nat) : Int) % 4294967296 = ((V * 2 ^ A : Nat) : Int) from by omega]
  rw [u32_andNot _ _ (by omega) (by omega) (by omega) (by omega)]
  have hle : W &&& (4294967295 - (2 ^ N - 1) * 2 ^ A) ≤ W := Nat.and_le_left
  rw [Int.toNat_natCast, Int.toNat_natCast, u32_or _ _ (by omega) (by omega) (by omega) (by omega), Int.toNat_natCast, Int.toNat_natCast, put_nat W A N V hV hW hs]
  unfold putI getI
  rw [if_pos hp, eN, eA]
  have hsw := split_word W A N
  have e1 : ((W : Int) / ((2 ^ A : Nat) : Int) % ((2 ^ N : Nat) : Int)) = ((W / 2 ^ A % 2 ^ N : Nat) : Int) := by simp
  rw [e1, ← Int.natCast_mul, ← Int.natCast_mul]
  omega

theorem fits_shr {v n : Int} (h0 : 0 ≤ v) (h1 : v ≤ 4294967295) (hn : 0 ≤ n) : (v / 2 ^ min n.toNat 32 == 0) = fitB v n := by
  unfold fitB
  rw [Bool.eq_iff_iff, beq_iff_eq, decide_eq_true_iff]
  by_cases h : n ≤ 32
  · have e : min n.toNat 32 = n.toNat := by omega
    rw [e]
    show v / pw n = 0 ↔ v < pw n
    constructor
    · intro hz
      have h2 := Int.lt_ediv_add_one_mul_self v (pw_pos n)
      rw [hz] at h2
      omega
    · intro hlt; exact Int.ediv_eq_zero_of_lt h0 hlt
  · have e : min n.toNat 32 = 32 := by omega
    rw [e]
    have hz : v / 2 ^ 32 = 0 := Int.ediv_eq_zero_of_lt h0 (by omega)
    have := pw_ge32 (n := n) (by omega)
    constructor
    · intro _; omega
    · intro _; exact hz
theorem fits_neg {v n : Int} (h0 : 0 ≤ v) (hn : n ≤ 0) : (v == 0) = fitB v n := by
  unfold fitB
  rw [pw_neg hn, Bool.eq_iff_iff, beq_iff_eq, decide_eq_true_iff]
  omega

/-! ### Rows of numbers -/
/-- The sum of the k first numbers. -/
def sumTo (zs : List Int) : Nat → Int
  | 0 => 0
  | k + 1 => sumTo zs k + nth zs k
/-- The numbers of a word's k first pieces. -/
def splitTo (x : Int) (zs : List Int) (k : Nat) : List Int := (List.range k).map fun j => getI x (sumTo zs j) (nth zs j)
theorem splitTo_length (x : Int) (zs : List Int) (k : Nat) : (splitTo x zs k).length = k := by simp [splitTo]
end Go.Proofs.YtljdbaddockfcaaGreat.Pk

namespace Go.Proofs.YtljdbaddockfcaaGreat.Pk
open Go.RowKit
set_option linter.unusedVariables false
set_option linter.unusedSimpArgs false

set_option maxHeartbeats 400000 in
theorem isWidth_yes (n : Int) (w : World) (h1 : 1 ≤ n) (h2 : n ≤ 32) :
    Calls Tryz.prog 222 #[.int .i64 n] w fun e w' => e = .returned (.bool true) ∧ w = w' := by
  go_enter Tryz.func222, Tryz.ntmps222
  go_wp2
  go_ret
  exact ⟨rfl, rfl⟩

set_option maxHeartbeats 400000 in
theorem isWidth_no (n : Int) (w : World) (h : ¬ (1 ≤ n ∧ n ≤ 32)) :
    Calls Tryz.prog 222 #[.int .i64 n] w fun e w' => e = .returned (.bool false) ∧ w = w' := by
  by_cases h1 : 1 ≤ n
  · have h2 : ¬ n ≤ 32 := fun h2 => h ⟨h1, h2⟩
    clear h
    go_enter Tryz.func222, Tryz.ntmps222
    go_wp2
    go_ret
    exact ⟨rfl, rfl⟩
  · clear h
    go_enter Tryz.func222, Tryz.ntmps222
    go_wp2
    go_ret
    exact ⟨rfl, rfl⟩

set_option maxHeartbeats 400000 in
theorem isPiece_yes (a n : Int) (w : World) (hp : pieceB a n = true) :
    Calls Tryz.prog 199 #[.int .i64 a, .int .i64 n] w fun e w' => e = .returned (.bool true) ∧ w = w' := by
  obtain ⟨h0, h1, h2, h3⟩ := pieceB_yes hp
  clear hp
  go_enter Tryz.func199, Tryz.ntmps199
  go_wp2_with (go_at_call 222; refine (isWidth_yes _ _ (by omega) (by omega)).mono ?_; rintro e w' ⟨rfl, rfl⟩)
  go_ret
  exact ⟨rfl, rfl⟩

set_option maxHeartbeats 400000 in
theorem isPiece_no (a n : Int) (w : World) (hp : pieceB a n = false) :
    Calls Tryz.prog 199 #[.int .i64 a, .int .i64 n] w fun e w' => e = .returned (.bool false) ∧ w = w' := by
  have h := pieceB_no hp
  clear hp
  by_cases hw : 1 ≤ n ∧ n ≤ 32
  · obtain ⟨h1, h2⟩ := hw
    by_cases h0 : 0 ≤ a
    · have h3 : ¬ a ≤ 32 - n := fun h3 => h ⟨h0, h1, h2, h3⟩
      clear h
      go_enter Tryz.func199, Tryz.ntmps199
      go_wp2_with (go_at_call 222; refine (isWidth_yes _ _ (by omega) (by omega)).mono ?_; rintro e w' ⟨rfl, rfl⟩)
      go_ret
      exact ⟨ret_bool (decide_eq_false (by omega)), rfl⟩
    · clear h
      go_enter Tryz.func199, Tryz.ntmps199
      go_wp2_with (go_at_call 222; refine (isWidth_yes _ _ (by omega) (by omega)).mono ?_; rintro e w' ⟨rfl, rfl⟩)
      go_ret
      exact ⟨rfl, rfl⟩
  · clear h
    have hW : Hid (¬ (1 ≤ n ∧ n ≤ 32)) := hw
    clear hw
    go_enter Tryz.func199, Tryz.ntmps199
    go_wp2_with (go_at_call 222; refine (isWidth_no _ _ hW.out).mono ?_; rintro e w' ⟨rfl, rfl⟩)
    go_ret
    exact ⟨rfl, rfl⟩

set_option maxHeartbeats 400000 in
theorem lowOnes_any (n : Int) (w : World) (h1 : 1 ≤ n) (h2 : n ≤ 32) :
    Calls Tryz.prog 200 #[.int .i64 n] w fun e w' => e = .returned (.int .u32 (pw n - 1)) ∧ w = w' := by
  go_enter Tryz.func200, Tryz.ntmps200
  go_wp2
  go_ret
  exact ⟨ret_int (lo_mask h1 h2), rfl⟩

set_option maxHeartbeats 400000 in
theorem fits_any (v n : Int) (w : World) (h0 : 0 ≤ v) (h1 : v ≤ 4294967295) :
    Calls Tryz.prog 220 #[.int .u32 v, .int .i64 n] w fun e w' => e = .returned (.bool (fitB v n)) ∧ w = w' := by
  by_cases hn : 0 ≤ n
  · go_enter Tryz.func220, Tryz.ntmps220
    go_wp2
    go_ret
    exact ⟨ret_bool (fits_shr h0 h1 hn), rfl⟩
  · go_enter Tryz.func220, Tryz.ntmps220
    go_wp2
    go_ret
    exact ⟨ret_bool (fits_neg h0 (by omega)), rfl⟩

set_option maxHeartbeats 400000 in
theorem get_yes (x a n : Int) (w : World) (h0 : 0 ≤ x) (h1 : x ≤ 4294967295) (hp : pieceB a n = true) :
    Calls Tryz.prog 168 #[.int .u32 x, .int .i64 a, .int .i64 n] w fun e w' => e = .returned (.int .u32 (getI x a n)) ∧ ∃ k, w' = w.drewN k := by
  obtain ⟨g0, g1, g2, g3⟩ := pieceB_yes hp
  have HG : Hid (bits .and .u32 (x / 2 ^ a.toNat) (pw n - 1) = getI x a n) := get_and h0 h1 hp
  have HP : Hid (pieceB a n = true) := hp
  clear hp
  go_enter Tryz.func168, Tryz.ntmps168
  go_wp2_with (go_at_call 199; refine (isPiece_yes _ _ _ HP.out).mono ?_; rintro e w' ⟨rfl, rfl⟩)
  go_quiet ((go_at_call 200; exact quiet_eq (lowOnes_any _ _ g1 g2)))
  go_wp2
  go_ret
  exact ⟨ret_int HG.out, _, rfl⟩

set_option maxHeartbeats 400000 in
theorem get_no (x a n : Int) (w : World) (hp : pieceB a n = false) :
    Calls Tryz.prog 168 #[.int .u32 x, .int .i64 a, .int .i64 n] w fun e w' => e = .returned (.int .u32 0) ∧ w = w' := by
  have HP : Hid (pieceB a n = false) := hp
  clear hp
  go_enter Tryz.func168, Tryz.ntmps168
  go_wp2_with (go_at_call 199; refine (isPiece_no _ _ _ HP.out).mono ?_; rintro e w' ⟨rfl, rfl⟩)
  go_ret
  exact ⟨rfl, rfl⟩

theorem ret_put {a b c : Int} (h : a = b) : Ending.returned (.tuple #[.int .u32 a, .int .i64 c]) = .returned (.tuple #[.int .u32 b, .int .i64 c]) := by rw [h]

set_option maxHeartbeats 400000 in
theorem put_no (x a n v : Int) (w : World) (hp : pieceB a n = false) :
    Calls Tryz.prog 195 #[.int .u32 x, .int .i64 a, .int .i64 n, .int .u32 v] w fun e w' => e = .returned (.tuple #[.int .u32 0, .int .i64 2]) ∧ w = w' := by
  have HP : Hid (pieceB a n = false) := hp
  clear hp
  go_enter Tryz.func195, Tryz.ntmps195
  go_wp2_with (go_at_call 199; refine (isPiece_no _ _ _ HP.out).mono ?_; rintro e w' ⟨rfl, rfl⟩)
  go_ret2
  exact ⟨rfl, rfl⟩

set_option maxHeartbeats 400000 in
theorem put_big (x a n v : Int) (w : World) (hp : pieceB a n = true) (hv0 : 0 ≤ v) (hv1 : v ≤ 4294967295) (hf : fitB v n = false) :
    Calls Tryz.prog 195 #[.int .u32 x, .int .i64 a, .int .i64 n, .int .u32 v] w fun e w' => e = .returned (.tuple #[.int .u32 0, .int .i64 15]) ∧ w = w' := by
  have HP : Hid (pieceB a n = true) := hp
  clear hp
  go_enter Tryz.func195, Tryz.ntmps195
  go_wp2_with (first | (go_at_call 199; refine (isPiece_yes _ _ _ HP.out).mono ?_; rintro e w' ⟨rfl, rfl⟩) | (go_at_call 220; refine (fits_any _ _ _ hv0 hv1).mono ?_; rintro e w' ⟨rfl, rfl⟩))
  go_ret2
  exact ⟨rfl, rfl⟩

set_option maxHeartbeats 400000 in
theorem put_yes (x a n v : Int) (w : World) (h0 : 0 ≤ x) (h1 : x ≤ 4294967295) (hp : pieceB a n = true) (hv0 : 0 ≤ v) (hv1 : v ≤ 4294967295) (hf : fitB v n = true) :
    Calls Tryz.prog 195 #[.int .u32 x, .int .i64 a, .int .i64 n, .int .u32 v] w fun e w' => e = .returned (.tuple #[.int .u32 (putI x a n v), .int .i64 0]) ∧ ∃ k, w' = w.drewN k := by
  obtain ⟨g0, g1, g2, g3⟩ := pieceB_yes hp
  have HG : Hid (bits .or .u32 (bits .andNot .u32 x (IntKind.u32.wrap ((pw n - 1) * 2 ^ a.toNat))) (IntKind.u32.wrap (v * 2 ^ a.toNat)) = putI x a n v) := put_or h0 h1 hv0 hp hf
  have HP : Hid (pieceB a n = true) := hp
  clear hp
  go_enter Tryz.func195, Tryz.ntmps195
  go_wp2_with (first | (go_at_call 199; refine (isPiece_yes _ _ _ HP.out).mono ?_; rintro e w' ⟨rfl, rfl⟩) | (go_at_call 220; refine (fits_any _ _ _ hv0 hv1).mono ?_; rintro e w' ⟨rfl, rfl⟩))
  go_quiet ((go_at_call 200; exact quiet_eq (lowOnes_any _ _ g1 g2)))
  go_wp2
  go_ret2
  exact ⟨ret_put HG.out, _, rfl⟩

end Go.Proofs.YtljdbaddockfcaaGreat.Pk

namespace Go.Proofs.YtljdbaddockfcaaGreat.Pk
open Go.RowKit
set_option linter.unusedVariables false
set_option linter.unusedSimpArgs false

end Go.Proofs.YtljdbaddockfcaaGreat.Pk

namespace Go.Proofs.YtljdbaddockfcaaGreat.Pk
open Go.RowKit
set_option linter.unusedVariables false
set_option linter.unusedSimpArgs false

end Go.Proofs.YtljdbaddockfcaaGreat.Pk

namespace Go.Proofs.YtljdbaddockfcaaGreat.Pk
open Go.RowKit
set_option linter.unusedVariables false
set_option linter.unusedSimpArgs false

/-! ### The document's -/
end Go.Proofs.YtljdbaddockfcaaGreat.Pk

namespace Go.Proofs.YtljdbaddockfcaaGreat.Pk
open Go.RowKit
set_option linter.unusedVariables false
set_option linter.unusedSimpArgs false

/-- The pieces so far, and noughts for those still to come. -/
def part (x : Int) (zs : List Int) (k : Nat) : List Value := (splitTo x zs k ++ List.replicate (zs.length - k) 0).map (Value.int .u32)
/-- The end of a Split: the pieces, in memory of its own. -/
def Pieces (x : Int) (zs : List Int) (w : World) (e : Ending) (w' : World) : Prop :=
  ∃ a cap, e = .returned (.tuple #[.slice a zs.length cap, .int .i64 0]) ∧ Row w' .u32 a (splitTo x zs zs.length) ∧ Below w.heap.size w w'
theorem Pieces.mk {x : Int} {zs : List Int} {w w' : World} {v : Value} {B : Nat} {t : TypeId}
    (h : w'.ownsRow B t 1 v zs.length ((splitTo x zs zs.length).map (Value.int .u32))) (hb : Below w.heap.size w w') : Pieces x zs w (.returned (.tuple #[v, .int .i64 0])) w' := by
  have h2 : w'.ownsRow B t 1 v (splitTo x zs zs.length).length ((splitTo x zs zs.length).map (Value.int .u32)) := by rw [splitTo_length]; exact h
  obtain ⟨a, cap, hv, hr⟩ := Row.of_owns h2
  rw [splitTo_length] at hv
  exact ⟨a, cap, by rw [hv], hr, hb⟩

/-! ### The document's -/
end Go.Proofs.YtljdbaddockfcaaGreat.Pk

namespace Go.Proofs.YtljdbaddockfcaaGreat.Pk
open Go.RowKit
set_option linter.unusedVariables false
set_option linter.unusedSimpArgs false

/-- Put's word, and Put's error. -/
def putV (x a n v : Int) : Int := if pieceB a n = true then (if fitB v n = true then putI x a n v else 0) else 0
def putE (a n v : Int) : Int := if pieceB a n = true then (if fitB v n = true then 0 else 15) else 2
theorem putV_yes {x a n v : Int} (h1 : pieceB a n = true) (h2 : fitB v n = true) : putV x a n v = putI x a n v := by unfold putV; rw [if_pos h1, if_pos h2]
theorem putE_yes {a n v : Int} (h1 : pieceB a n = true) (h2 : fitB v n = true) : putE a n v = 0 := by unfold putE; rw [if_pos h1, if_pos h2]
theorem ret_put2 {a b c d : Int} (h : a = b) (h2 : c = d) : Ending.returned (.tuple #[.int .u32 a, .int .i64 c]) = .returned (.tuple #[.int .u32 b, .int .i64 d]) := by rw [h, h2]

theorem get_any (x a n : Int) (w : World) (h0 : 0 ≤ x) (h1 : x ≤ 4294967295) :
    Calls Tryz.prog 168 #[.int .u32 x, .int .i64 a, .int .i64 n] w fun e w' => e = .returned (.int .u32 (getI x a n)) ∧ Drw w w' := by
  cases hp : pieceB a n
  · refine (get_no x a n w hp).mono fun e w' ⟨he, hw⟩ => ⟨?_, hw ▸ Drw.refl w⟩
    rw [he]; exact ret_int (by unfold getI; rw [hp]; rfl)
  · exact get_yes x a n w h0 h1 hp

theorem put_any (x a n v : Int) (w : World) (h0 : 0 ≤ x) (h1 : x ≤ 4294967295) (hv0 : 0 ≤ v) (hv1 : v ≤ 4294967295) :
    Calls Tryz.prog 195 #[.int .u32 x, .int .i64 a, .int .i64 n, .int .u32 v] w fun e w' => e = .returned (.tuple #[.int .u32 (putV x a n v), .int .i64 (putE a n v)]) ∧ Drw w w' := by
  cases hp : pieceB a n
  · refine (put_no x a n v w hp).mono fun e w' ⟨he, hw⟩ => ⟨?_, hw ▸ Drw.refl w⟩
    rw [he]; exact ret_put2 (by unfold putV; rw [hp]; rfl) (by unfold putE; rw [hp]; rfl)
  · cases hf : fitB v n
    · refine (put_big x a n v w hp hv0 hv1 hf).mono fun e w' ⟨he, hw⟩ => ⟨?_, hw ▸ Drw.refl w⟩
      rw [he]; exact ret_put2 (by unfold putV; rw [hp, hf]; rfl) (by unfold putE; rw [hp, hf]; rfl)
    · refine (put_yes x a n v w h0 h1 hp hv0 hv1 hf).mono fun e w' ⟨he, hw⟩ => ⟨?_, hw⟩
      rw [he]; exact ret_put2 (putV_yes hp hf).symm (putE_yes hp hf).symm

open Classical in
open Classical in
open Classical in
open Classical in
/-! ### What is put is got -/
end Go.Proofs.YtljdbaddockfcaaGreat.Pk

/-
  Plain facts on tags: when they are right, their words, and what words say. No program in sight.
-/
namespace Go.Proofs.YtljdbaddockfcaaGreat.Pk
open Go.RowKit
set_option linter.unusedVariables false
set_option linter.unusedSimpArgs false

/-- Is n from 0 on and below b? -/
def inB (n b : Int) : Bool := decide (0 ≤ n ∧ n < b)
theorem inB_yes {n b : Int} (h : inB n b = true) : 0 ≤ n ∧ n < b := of_decide_eq_true h
theorem inB_mk {n b : Int} (h : 0 ≤ n ∧ n < b) : inB n b = true := decide_eq_true h
theorem inB_mk' {n b : Int} (h : ¬ (0 ≤ n ∧ n < b)) : inB n b = false := decide_eq_false h
/-- Are all five of them 0 or 1? -/
def bitsB (c n s d g : Int) : Bool := inB c 2 && inB n 2 && inB s 2 && inB d 2 && inB g 2
/-- Is none of the five set? -/
def noneB (c n s d g : Int) : Bool := decide (c = 0 ∧ n = 0 ∧ s = 0 ∧ d = 0 ∧ g = 0)
/-- Is a tag right? -/
def rightB (k c n s d g o : Int) : Bool := inB k 4 && inB o 1048576 && (k == 3 || o == 0) && bitsB c n s d g && (!(k == 0 || k == 3) || noneB c n s d g)
/-- A right tag, told by its numbers. -/
def RightT (k c n s d g o : Int) : Prop :=
  (0 ≤ k ∧ k < 4) ∧ (0 ≤ o ∧ o < 1048576) ∧ (k = 3 ∨ o = 0) ∧ (0 ≤ c ∧ c < 2) ∧ (0 ≤ n ∧ n < 2) ∧ (0 ≤ s ∧ s < 2) ∧ (0 ≤ d ∧ d < 2) ∧ (0 ≤ g ∧ g < 2) ∧ ((k = 0 ∨ k = 3) → c = 0 ∧ n = 0 ∧ s = 0 ∧ d = 0 ∧ g = 0)
theorem rightB_iff {k c n s d g o : Int} : rightB k c n s d g o = true ↔ RightT k c n s d g o := by
  unfold rightB RightT bitsB noneB inB
  simp only [Bool.and_eq_true, Bool.or_eq_true, Bool.not_eq_true', Bool.or_eq_false_iff, decide_eq_true_eq, beq_iff_eq, beq_eq_false_iff_ne, ne_eq]
  omega
theorem rightB_yes {k c n s d g o : Int} (h : rightB k c n s d g o = true) : RightT k c n s d g o := rightB_iff.1 h
theorem rightB_mk {k c n s d g o : Int} (h : RightT k c n s d g o) : rightB k c n s d g o = true := rightB_iff.2 h
theorem rightB_no {k c n s d g o : Int} (h : ¬ RightT k c n s d g o) : rightB k c n s d g o = false := by
  cases h2 : rightB k c n s d g o with
  | false => rfl
  | true => exact absurd (rightB_yes h2) h

theorem bool_iff {a b : Bool} (h : a = true ↔ b = true) : a = b := by cases a <;> cases b <;> simp_all
theorem noneB_iff {c n s d g : Int} : noneB c n s d g = true ↔ c = 0 ∧ n = 0 ∧ s = 0 ∧ d = 0 ∧ g = 0 := by unfold noneB; simp
theorem bitsB_iff {c n s d g : Int} : bitsB c n s d g = true ↔ (0 ≤ c ∧ c < 2) ∧ (0 ≤ n ∧ n < 2) ∧ (0 ≤ s ∧ s < 2) ∧ (0 ≤ d ∧ d < 2) ∧ (0 ≤ g ∧ g < 2) := by
  unfold bitsB inB; simp [and_assoc]
theorem rgt_k {k c n s d g o : Int} (h : inB k 4 = false) : rightB k c n s d g o = false := by unfold rightB; rw [h]; rfl
theorem rgt_o {k c n s d g o : Int} (h : inB o 1048576 = false) : rightB k c n s d g o = false := by unfold rightB; rw [h]; simp
theorem rgt_no {k c n s d g o : Int} (h : ¬ k = 3) (h2 : ¬ o = 0) : rightB k c n s d g o = false := by
  refine rightB_no fun hr => ?_
  obtain ⟨_, _, h3, _⟩ := hr
  omega
theorem rgt_3 {c n s d g o : Int} (h : inB o 1048576 = true) : rightB 3 c n s d g o = noneB c n s d g := by
  have := inB_yes h
  refine bool_iff ?_
  rw [rightB_iff, noneB_iff]; unfold RightT
  omega
theorem rgt_0 {c n s d g : Int} : rightB 0 c n s d g 0 = noneB c n s d g := by
  refine bool_iff ?_
  rw [rightB_iff, noneB_iff]; unfold RightT
  omega
theorem rgt_s {k c n s d g : Int} (h : inB k 4 = true) (h0 : ¬ k = 0) (h3 : ¬ k = 3) : rightB k c n s d g 0 = bitsB c n s d g := by
  have := inB_yes h
  refine bool_iff ?_
  rw [rightB_iff, bitsB_iff]; unfold RightT
  omega

/-- A tag's word. -/
def packI (k c n s d g o : Int) : Int := k + 4 * c + 8 * n + 16 * s + 32 * d + 64 * g + 256 * o
/-- A piece put behind all that is set. -/
theorem putI_new {x a n v : Int} (h0 : 0 ≤ x) (hx : x < pw a) (hp : pieceB a n = true) : putI x a n v = x + v * pw a := by
  unfold putI getI
  rw [if_pos hp, Int.ediv_eq_zero_of_lt h0 hx]
  simp
theorem putV_new {x a n v : Int} (h0 : 0 ≤ x) (hx : x < pw a) (hp : pieceB a n = true) (hf : v < pw n) : putV x a n v = x + v * pw a := by
  rw [putV_yes hp (decide_eq_true hf), putI_new h0 hx hp]
theorem pw_1 : pw 1 = 2 := by decide
theorem pw_2 : pw 2 = 4 := by decide
theorem pw_3 : pw 3 = 8 := by decide
theorem pw_4 : pw 4 = 16 := by decide
theorem pw_5 : pw 5 = 32 := by decide
theorem pw_6 : pw 6 = 64 := by decide
theorem pw_8 : pw 8 = 256 := by decide
theorem pw_24 : pw 24 = 16777216 := by decide

/-- The words that Pack comes to, piece by piece. -/
def pk0 (k : Int) : Int := putV 0 0 2 k
def pk1 (k c : Int) : Int := putV (pk0 k) 2 1 c
def pk2 (k c n : Int) : Int := putV (pk1 k c) 3 1 n
def pk3 (k c n s : Int) : Int := putV (pk2 k c n) 4 1 s
def pk4 (k c n s d : Int) : Int := putV (pk3 k c n s) 5 1 d
def pk5 (k c n s d g : Int) : Int := putV (pk4 k c n s d) 6 1 g
def pk6 (k c n s d g o : Int) : Int := putV (pk5 k c n s d g) 8 24 o
theorem pk6_eq {k c n s d g o : Int} (h : RightT k c n s d g o) :
    pk6 k c n s d g o = packI k c n s d g o ∧ (0 ≤ pk0 k ∧ pk0 k ≤ 4294967295) ∧ (0 ≤ pk1 k c ∧ pk1 k c ≤ 4294967295) ∧ (0 ≤ pk2 k c n ∧ pk2 k c n ≤ 4294967295) ∧ (0 ≤ pk3 k c n s ∧ pk3 k c n s ≤ 4294967295) ∧ (0 ≤ pk4 k c n s d ∧ pk4 k c n s d ≤ 4294967295) ∧ (0 ≤ pk5 k c n s d g ∧ pk5 k c n s d g ≤ 4294967295) := by
  obtain ⟨h1, h2, h3, h4, h5, h6, h7, h8, h9⟩ := h
  have e0 : pk0 k = k := by
    unfold pk0; rw [putV_new (by omega) (by decide) (by decide) (by rw [pw_2]; omega), pw_0]; omega
  have e1 : pk1 k c = k + 4 * c := by
    unfold pk1; rw [e0, putV_new (by omega) (by rw [pw_2]; omega) (by decide) (by rw [pw_1]; omega), pw_2]; omega
  have e2 : pk2 k c n = k + 4 * c + 8 * n := by
    unfold pk2; rw [e1, putV_new (by omega) (by rw [pw_3]; omega) (by decide) (by rw [pw_1]; omega), pw_3]; omega
  have e3 : pk3 k c n s = k + 4 * c + 8 * n + 16 * s := by
    unfold pk3; rw [e2, putV_new (by omega) (by rw [pw_4]; omega) (by decide) (by rw [pw_1]; omega), pw_4]; omega
  have e4 : pk4 k c n s d = k + 4 * c + 8 * n + 16 * s + 32 * d := by
    unfold pk4; rw [e3, putV_new (by omega) (by rw [pw_5]; omega) (by decide) (by rw [pw_1]; omega), pw_5]; omega
  have e5 : pk5 k c n s d g = k + 4 * c + 8 * n + 16 * s + 32 * d + 64 * g := by
    unfold pk5; rw [e4, putV_new (by omega) (by rw [pw_6]; omega) (by decide) (by rw [pw_1]; omega), pw_6]; omega
  have e6 : pk6 k c n s d g o = k + 4 * c + 8 * n + 16 * s + 32 * d + 64 * g + 256 * o := by
    unfold pk6; rw [e5, putV_new (by omega) (by rw [pw_8]; omega) (by decide) (by rw [pw_24]; omega), pw_8]; omega
  unfold packI
  omega

/-- What a word says. -/
def uK (x : Int) : Int := x % 4
def uC (x : Int) : Int := x / 4 % 2
def uN (x : Int) : Int := x / 8 % 2
def uS (x : Int) : Int := x / 16 % 2
def uD (x : Int) : Int := x / 32 % 2
def uG (x : Int) : Int := x / 64 % 2
def uO (x : Int) : Int := x / 256
theorem get_uK (x : Int) : getI x 0 2 = uK x := by
  unfold getI uK; rw [if_pos (by decide), pw_0, pw_2, Int.ediv_one]
theorem get_uC (x : Int) : getI x 2 1 = uC x := by unfold getI uC; rw [if_pos (by decide), pw_1, pw_2]
theorem get_uN (x : Int) : getI x 3 1 = uN x := by unfold getI uN; rw [if_pos (by decide), pw_1, pw_3]
theorem get_uS (x : Int) : getI x 4 1 = uS x := by unfold getI uS; rw [if_pos (by decide), pw_1, pw_4]
theorem get_uD (x : Int) : getI x 5 1 = uD x := by unfold getI uD; rw [if_pos (by decide), pw_1, pw_5]
theorem get_uG (x : Int) : getI x 6 1 = uG x := by unfold getI uG; rw [if_pos (by decide), pw_1, pw_6]
theorem get_uO {x : Int} (h0 : 0 ≤ x) (h1 : x ≤ 4294967295) : getI x 8 24 = uO x := by
  unfold getI uO; rw [if_pos (by decide), pw_8, pw_24]; omega

/-- What is packed is unpacked as it was. -/
theorem unpack_pack {k c n s d g o : Int} (h : RightT k c n s d g o) :
    uK (packI k c n s d g o) = k ∧ uC (packI k c n s d g o) = c ∧ uN (packI k c n s d g o) = n ∧ uS (packI k c n s d g o) = s ∧ uD (packI k c n s d g o) = d ∧ uG (packI k c n s d g o) = g ∧ uO (packI k c n s d g o) = o := by
  obtain ⟨h1, h2, h3, h4, h5, h6, h7, h8, h9⟩ := h
  unfold packI uK uC uN uS uD uG uO
  omega
/-- What is unpacked is packed as it was, but for bit 7. -/
theorem pack_unpack (x : Int) : packI (uK x) (uC x) (uN x) (uS x) (uD x) (uG x) (uO x) = x - 128 * (x / 128 % 2) := by
  unfold packI uK uC uN uS uD uG uO
  omega
end Go.Proofs.YtljdbaddockfcaaGreat.Pk

/-
  Plain facts on shapes: widths, sizes, places. No program in sight.
-/
namespace Go.Proofs.YtljdbaddockfcaaGreat.Pk
open Go.RowKit
set_option linter.unusedVariables false
set_option linter.unusedSimpArgs false

/-- Is it a width? -/
def widB (W : Int) : Bool := decide (16 ≤ W ∧ W ≤ 256)
theorem widB_yes {W : Int} (h : widB W = true) : 16 ≤ W ∧ W ≤ 256 := of_decide_eq_true h
theorem widB_mk {W : Int} (h0 : 16 ≤ W) (h1 : W ≤ 256) : widB W = true := decide_eq_true ⟨h0, h1⟩
theorem widB_mk' {W : Int} (h : ¬ (16 ≤ W ∧ W ≤ 256)) : widB W = false := decide_eq_false h
/-- How many leaves an object of so many fields has. -/
def leavesI (W n : Int) : Int := if n ≤ W - 8 then 0 else upP n (W - 1)
def startI (l : Int) : Int := if l = -1 then 8 else 1
def aheadI (W l : Int) : Int := mulL [l, W - 1]
/-- What is wrong with a width and so many fields. -/
def wrongE (W n : Int) : Int := if widB W = true then (if n < 0 ∨ fieldsI W < n then 3 else 0) else 1
/-- What is wrong with a width and two numbers of fields. -/
def sizeE (W p d : Int) : Int := if widB W = true then (if p < 0 ∨ d < 0 ∨ fieldsI W < p + d then 3 else 0) else 1
def blocksV (W p d : Int) : Int := if sizeE W p d = 0 then 1 + leavesI W (p + d) else 0
def placeE (W n i : Int) : Int := if wrongE W n = 0 then (if i < 0 ∨ n ≤ i then 7 else 0) else wrongE W n
def placeL (W n i : Int) : Int := if placeE W n i = 0 then (if n ≤ W - 8 then -1 else i / (W - 1)) else 0
def placeO (W n i : Int) : Int := if placeE W n i = 0 then (if n ≤ W - 8 then 8 + i else 1 + i % (W - 1)) else 0
theorem wrongE_ok {W n : Int} (h : wrongE W n = 0) : 16 ≤ W ∧ W ≤ 256 ∧ 0 ≤ n ∧ n ≤ fieldsI W := by
  unfold wrongE at h
  split at h
  · rename_i hw
    have := widB_yes hw
    split at h
    · cases h
    · omega
  · cases h
theorem wrongE_mk {W n : Int} (h0 : 16 ≤ W) (h1 : W ≤ 256) (h2 : 0 ≤ n) (h3 : n ≤ fieldsI W) : wrongE W n = 0 := by
  unfold wrongE; rw [if_pos (widB_mk h0 h1), if_neg (by omega)]
theorem sizeE_ok {W p d : Int} (h : sizeE W p d = 0) : 16 ≤ W ∧ W ≤ 256 ∧ 0 ≤ p ∧ 0 ≤ d ∧ p + d ≤ fieldsI W := by
  unfold sizeE at h
  split at h
  · rename_i hw
    have := widB_yes hw
    split at h
    · cases h
    · omega
  · cases h
theorem placeE_ok {W n i : Int} (h : placeE W n i = 0) : wrongE W n = 0 ∧ 0 ≤ i ∧ i < n := by
  unfold placeE at h
  split at h
  · split at h
    · cases h
    · exact ⟨by assumption, by omega, by omega⟩
  · exact absurd h (by assumption)
theorem placeE_mk {W n i : Int} (h : wrongE W n = 0) (h0 : 0 ≤ i) (h1 : i < n) : placeE W n i = 0 := by
  unfold placeE; rw [if_pos h, if_neg (by omega)]
/-- The leaves of an object that is not small. -/
theorem leaves_big {W n : Int} (h0 : 16 ≤ W) (h1 : W ≤ 256) (h2 : W - 8 < n) (h3 : n ≤ fieldsI W) :
    1 ≤ leavesI W n ∧ leavesI W n ≤ W - 8 ∧ n ≤ leavesI W n * (W - 1) ∧ leavesI W n * (W - 1) < n + W - 1 := by
  have e : leavesI W n = upP n (W - 1) := by unfold leavesI; rw [if_neg (by omega)]
  have u := upP_bd (a := n) (b := W - 1) (by omega) (by omega)
  rw [e]
  rw [Int.mul_comm (W - 1)] at u
  refine ⟨?_, ?_, u.2.2.1, by omega⟩
  · by_cases h : 1 ≤ upP n (W - 1)
    · exact h
    · have : upP n (W - 1) = 0 := by omega
      rw [this, Int.zero_mul] at u
      omega
  · by_cases h : upP n (W - 1) ≤ W - 8
    · exact h
    · have h4 : (W - 8 + 1) * (W - 1) ≤ upP n (W - 1) * (W - 1) := Int.mul_le_mul_of_nonneg_right (by omega) (by omega)
      rw [Int.add_mul] at h4
      have : (W - 8) * (W - 1) = fieldsI W := rfl
      omega
theorem leaves_small {W n : Int} (h : n ≤ W - 8) : leavesI W n = 0 := by unfold leavesI; rw [if_pos h]
theorem leaves_bd {W n : Int} (h0 : 16 ≤ W) (h1 : W ≤ 256) (h3 : n ≤ fieldsI W) : 0 ≤ leavesI W n ∧ leavesI W n ≤ W - 8 := by
  by_cases h : n ≤ W - 8
  · rw [leaves_small h]; omega
  · have := leaves_big h0 h1 (by omega) h3; omega
/-- Products with a leaf that there is. -/
theorem leaf_lt {m a b : Int} (hm : 1 ≤ m) (h : a < b) : a * m + m ≤ b * m := by
  have : (a + 1) * m ≤ b * m := Int.mul_le_mul_of_nonneg_right (by omega) (by omega)
  rw [Int.add_mul] at this
  omega
theorem ahead_neg {W l : Int} (h0 : 16 ≤ W) (h1 : W ≤ 256) (h : l ≤ 0) : aheadI W l = 0 := by
  unfold aheadI
  rw [mulL_two, cnt_lo h, cnt_id (by omega) (by omega), times_min (by omega) (by omega) (by omega) (by omega), Int.zero_mul]
  rfl
theorem ahead_id {W l : Int} (h0 : 16 ≤ W) (h1 : W ≤ 256) (h : 0 ≤ l) (h2 : l ≤ 256) : aheadI W l = l * (W - 1) := by
  unfold aheadI
  have := mul_le_of h (show 0 ≤ W - 1 by omega) h2 (show W - 1 ≤ 255 by omega)
  exact mul2_id (by omega) (by omega) (by omega) (by omega) (by omega)
/-- A field's leaf and what is ahead of it. -/
theorem part_of {m i : Int} (hm : 1 ≤ m) (hi : 0 ≤ i) : i = (i / m) * m + i % m ∧ 0 ≤ i % m ∧ i % m < m ∧ 0 ≤ i / m :=
  ⟨by have := Int.emod_add_mul_ediv i m; rw [Int.mul_comm] at this; omega, Int.emod_nonneg _ (by omega), Int.emod_lt_of_pos _ (by omega), Int.ediv_nonneg hi (by omega)⟩
theorem place_small {W n i : Int} (h : placeE W n i = 0) (hn : n ≤ W - 8) : placeL W n i = -1 ∧ placeO W n i = 8 + i := by
  unfold placeL placeO; rw [if_pos h, if_pos hn, if_pos h, if_pos hn]; exact ⟨rfl, rfl⟩
theorem place_big {W n i : Int} (h : placeE W n i = 0) (hn : W - 8 < n) : placeL W n i = i / (W - 1) ∧ placeO W n i = 1 + i % (W - 1) := by
  unfold placeL placeO; rw [if_pos h, if_neg (by omega), if_pos h, if_neg (by omega)]; exact ⟨rfl, rfl⟩
theorem place_wrong {W n i : Int} (h : placeE W n i ≠ 0) : placeL W n i = 0 ∧ placeO W n i = 0 := by
  unfold placeL placeO; rw [if_neg h, if_neg h]; exact ⟨rfl, rfl⟩

/-! ### Going through all fields -/
/-! ### All leaves together -/
end Go.Proofs.YtljdbaddockfcaaGreat.Pk
