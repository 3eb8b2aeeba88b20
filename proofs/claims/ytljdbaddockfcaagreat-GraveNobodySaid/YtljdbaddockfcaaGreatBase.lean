/-
  Mem: Memory: slices that read as lists of numbers, worlds behind draws, worlds with blocks of a call's own; ends of calls. No program in sight.
  Touch: Memory that a call may change: worlds that differ in some blocks alone; blocks that are known whole. No program in sight.
  Arr: Arrays of a call's own, of one-cell elements. No program in sight.
  OwnR: Rows of numbers in blocks of their own, which may be written. No program in sight.
  Same: The document's Same: rows of words that are alike.
-/
import Derived.WalkKit
import Derived.WalkSpells
import Derived.WalkLawsBesides
import Derived.Deep.QuietTactic
import Derived.BigQuiet
import Derived.Lib.Hide
import Derived.Laws.NewBlocks
import Derived.OneCell
import Derived.Laws.MakeOwn
import Derived.Laws.OwnMore
import Derived.Test.YtljdbaddockfcaaGreatProg
import Derived.IntWalk

namespace Go.Proofs.YtljdbaddockfcaaGreat.Pk
open Go.RowKit
set_option linter.unusedVariables false
set_option linter.unusedSimpArgs false

/-- An element of a list of numbers, 0 behind its end. -/
def nth (zs : List Int) (i : Nat) : Int := zs.getD i 0
/-- A slice value's elements, as they read in a world: those of zs. -/
def Row (w : World) (k : IntKind) (a : Option Addr) (zs : List Int) : Prop :=
  ∀ i, i < zs.length → ∃ b off, a = some ⟨b, off, none⟩ ∧ b < w.heap.size ∧ w.cell? ⟨b, off + i, none⟩ = some (.int k (nth zs i))
theorem Row.nil (w : World) (k : IntKind) (a : Option Addr) : Row w k a [] := fun _ h => absurd h (Nat.not_lt_zero _)
theorem Row.below {w w' : World} {k : IntKind} {a : Option Addr} {zs : List Int} {B : Nat} (h : Row w k a zs) (hb : Below B w w') (hB : w.heap.size ≤ B) : Row w' k a zs := by
  intro i hi
  obtain ⟨b, off, ha, hlt, hc⟩ := h i hi
  exact ⟨b, off, ha, Nat.lt_of_lt_of_le hlt hb.size, by rw [hb.cell (p := ⟨b, off + i, none⟩) (Nat.lt_of_lt_of_le hlt hB)]; exact hc⟩
theorem Row.drewN {w : World} {k : IntKind} {a : Option Addr} {zs : List Int} (h : Row w k a zs) (n : Nat) : Row (w.drewN n) k a zs := by
  intro i hi
  obtain ⟨b, off, ha, hlt, hc⟩ := h i hi
  exact ⟨b, off, ha, hlt, hc⟩

theorem Row.alloc {w : World} {k : IntKind} {a : Option Addr} {zs : List Int} (h : Row w k a zs) (o : Obj) : Row (w.alloc o) k a zs :=
  h.below ((Below.refl w.heap.size w).alloc (Nat.le_refl _) o) (Nat.le_refl _)
theorem Row.later {w w' : World} {k : IntKind} {a : Option Addr} {zs : List Int} (h : Row w k a zs) (hb : Below w.heap.size w w') : Row w' k a zs := h.below hb (Nat.le_refl _)
/-- The chain of worlds, each with blocks of its own alone. -/
theorem below_step {w w1 w2 : World} (h : Below w.heap.size w w1) (h2 : Below w1.heap.size w1 w2) : Below w.heap.size w w2 := h.trans (h2.mono h.size)
theorem below_new (w : World) (o : Obj) : Below w.heap.size w (w.alloc o) := (Below.refl _ _).alloc (Nat.le_refl _) o
theorem below_set {w w1 : World} (h : Below w.heap.size w w1) {p : Addr} (hp : w.heap.size ≤ p.block) (u : Value) : Below w.heap.size w (w1.setCell p u) := h.setCell hp u
theorem cell_block {w : World} {a : Addr} {v : Value} (h : w.cell? a = some v) : a.block < w.heap.size := by
  by_cases hlt : a.block < w.heap.size
  · exact hlt
  · unfold World.cell? at h
    rw [Array.getElem?_eq_none (by omega)] at h
    cases h
theorem cell_none {w : World} {a : Addr} {v : Value} (h : w.cell? a = some v) : a.spot = none := by
  unfold World.cell? at h
  split at h
  · split at h
    · cases h
    · rename_i hs
      cases hsp : a.spot with
      | none => rfl
      | some k => rw [hsp] at hs; exact absurd rfl hs
  · cases h
/-- A slice of numbers that came in. -/
theorem row_open {W : World} {k : IntKind} {x : Addr} {len cap : Nat} {zs : List Int} (hl : len ≤ cap) (hm : cap ≤ maxLen) (hz : zs.length = cap)
    (hcell : ∀ i, i < zs.length → W.cell? (x.add i) = some (.int k (zs.getD i 0))) (hwz : ∀ n ∈ zs, (Lit.int k n).wf = true) :
    ∃ es : List Int, len = es.length ∧ Row W k (some x) es ∧ (∀ n ∈ es, (Lit.int k n).wf = true) ∧ len ≤ maxLen := by
  refine ⟨zs.take len, by simp; omega, ?_, fun n hn => hwz n (List.mem_of_mem_take hn), Nat.le_trans hl hm⟩
  intro i hi
  have hi1 : i < len := by simp at hi; omega
  obtain ⟨b, off, spot⟩ := x
  have hs := cell_none (hcell 0 (by omega))
  simp [Addr.add] at hs
  subst hs
  have hadd : (⟨b, off, none⟩ : Addr).add i = ⟨b, off + i, none⟩ := by
    unfold Addr.add
    by_cases h0 : i = 0
    · subst h0; rfl
    · simp [h0]
  have hc := hcell i (by omega)
  rw [hadd] at hc
  refine ⟨b, off, rfl, cell_block hc, ?_⟩
  rw [hc]
  unfold nth
  simp [List.getD, hi1]
/-- A world behind some draws. -/
def Drw (w w' : World) : Prop := ∃ m, w' = w.drewN m
theorem Drw.refl (w : World) : Drw w w := ⟨0, rfl⟩
theorem Drw.step {w w' : World} (h : Drw w w') (n : Nat) : Drw w (w'.drewN n) := by
  obtain ⟨m, rfl⟩ := h; exact ⟨m + n, World.drewN_drewN _ _ _⟩
theorem Drw.size {w w' : World} (h : Drw w w') : w'.heap.size = w.heap.size := by obtain ⟨m, rfl⟩ := h; rfl
theorem Drw.below {w w' : World} (h : Drw w w') (B : Nat) : Below B w w' := by obtain ⟨m, rfl⟩ := h; exact ⟨rfl, rfl, rfl, Nat.le_refl _, fun _ _ => rfl⟩
theorem Drw.new {w w' : World} (h : Drw w w') : Below w.heap.size w w' := h.below _
theorem Row.drw {w w' : World} {k : IntKind} {a : Option Addr} {zs : List Int} (h : Row w k a zs) (d : Drw w w') : Row w' k a zs := by
  obtain ⟨m, rfl⟩ := d; exact h.drewN m

theorem ret_bool {a b : Bool} (h : a = b) : Ending.returned (.bool a) = .returned (.bool b) := by rw [h]

theorem ret_int {k : IntKind} {a b : Int} (h : a = b) : Ending.returned (.int k a) = .returned (.int k b) := by rw [h]

/-- A callee that leaves the world alone, met in a region that draws its order. -/
theorem quiet_eq {P : Program} {f : FuncId} {args : Array Value} {w : World} {n : Nat} {v : Value}
    (h : Calls P f args (w.drewN n) fun e w' => e = .returned v ∧ w.drewN n = w') : Calls P f args (w.drewN n) fun e w'' => e = .returned v ∧ ∃ m, w'' = w.drewN m :=
  h.mono fun _ _ ⟨he, hm⟩ => ⟨he, n, hm.symm⟩

/-- What a call owns as a row of numbers reads as those numbers. -/
theorem Row.of_owns {w : World} {B : Nat} {e : TypeId} {k : IntKind} {v : Value} {zs : List Int} (h : w.ownsRow B e 1 v zs.length (zs.map (Value.int k))) :
    ∃ a cap, v = .slice a zs.length cap ∧ Row w k a zs := by
  rcases h.2 with ⟨h1, h2⟩ | ⟨g, cap, cur, h1, _, hg, _⟩
  · refine ⟨none, 0, by rw [h1, h2], fun i hi => ?_⟩
    omega
  · refine ⟨some ⟨g, 0, none⟩, cap, h1, fun i hi => ⟨g, 0, rfl, ?_, ?_⟩⟩
    · by_cases hlt : g < w.heap.size
      · exact hlt
      · rw [Array.getElem?_eq_none (by omega)] at hg
        cases hg
    · subst h1
      have hc := h.cellAt i (by omega)
      rw [Nat.zero_add, hc, List.getElem?_map]
      show Option.map (Value.int k) zs[i]? = some (Value.int k (zs.getD i 0))
      simp [List.getD, hi]

theorem owns_block {w : World} {B : Nat} {e : TypeId} {size : Nat} {v : Value} {n : Nat} {xs : List Value} (h : w.ownsRow B e size v n xs) : ∀ k, v.ownBlock = some k → B ≤ k := by
  intro k hk
  rcases h.2 with ⟨h1, _⟩ | ⟨g, cap, cur, h1, hb, _⟩
  · subst h1; cases hk
  · subst h1
    simp [Value.ownBlock] at hk
    omega

theorem ret_slice {v v' : Value} {c : Int} (h : v = v') : Ending.returned (.tuple #[v, .int .i64 c]) = .returned (.tuple #[v', .int .i64 c]) := by rw [h]

theorem Row.lit (w : World) (k : IntKind) (zs : List Int) (t : TypeId) : Row (w.alloc (.cells (zs.map (Value.int k)).toArray t)) k (some ⟨w.heap.size, 0, none⟩) zs := by
  intro i hi
  refine ⟨w.heap.size, 0, rfl, by simp, ?_⟩
  rw [Nat.zero_add, World.cell?_alloc_at _ _ _ _ rfl]
  show (zs.map (Value.int k)).toArray[i]? = some (Value.int k (zs.getD i 0))
  simp [List.getD, hi]

/-- What lay below, reads as it did. -/
theorem bcell {B : Nat} {W w1 : World} (hb : Below B W w1) : (∀ b o, b < B → w1.cell? ⟨b, o, none⟩ = W.cell? ⟨b, o, none⟩) ∧ (∀ b o, b < B → w1.frozen? ⟨b, o, none⟩ = W.frozen? ⟨b, o, none⟩) :=
  ⟨fun b o h => hb.cell (p := ⟨b, o, none⟩) h, fun b o h => hb.frozen (p := ⟨b, o, none⟩) h⟩
theorem below_undrew {w w1 : World} (h : Below w.drew.heap.size w.drew w1) : Below w.heap.size w w1 := ⟨h.os, h.tape, h.output, h.size, h.block⟩
theorem below_undrew' {w w' : World} (h : Below w.drew.heap.size w.drew w') : Below w.heap.size w w' := ⟨h.os, h.tape, h.output, h.size, h.block⟩

end Go.Proofs.YtljdbaddockfcaaGreat.Pk

namespace Go.Proofs.YtljdbaddockfcaaGreat.Pk
open Go.RowKit
set_option linter.unusedVariables false
set_option linter.unusedSimpArgs false

/-- Of the blocks that there were, only those in X may have changed; blocks may have been made. -/
structure Touch (X : Nat → Prop) (w w' : World) : Prop where
  os : w'.os = w.os
  tape : w'.tape = w.tape
  output : w'.output = w.output
  size : w.heap.size ≤ w'.heap.size
  block : ∀ k, k < w.heap.size → ¬ X k → w'.heap[k]? = w.heap[k]?

theorem Touch.refl (X : Nat → Prop) (w : World) : Touch X w w := ⟨rfl, rfl, rfl, Nat.le_refl _, fun _ _ _ => rfl⟩
theorem Touch.trans {X : Nat → Prop} {a b c : World} (h : Touch X a b) (k : Touch X b c) : Touch X a c :=
  ⟨k.os.trans h.os, k.tape.trans h.tape, k.output.trans h.output, Nat.le_trans h.size k.size, fun i hi hx => (k.block i (Nat.lt_of_lt_of_le hi h.size) hx).trans (h.block i hi hx)⟩
theorem Touch.mono {X Y : Nat → Prop} {w w' : World} (h : Touch X w w') (hXY : ∀ k, k < w.heap.size → X k → Y k) : Touch Y w w' :=
  ⟨h.os, h.tape, h.output, h.size, fun k hk hy => h.block k hk fun hx => hy (hXY k hk hx)⟩
theorem Touch.of_below {X : Nat → Prop} {w w' : World} (h : Below w.heap.size w w') : Touch X w w' := ⟨h.os, h.tape, h.output, h.size, fun k hk _ => h.block k hk⟩
theorem Touch.below {X : Nat → Prop} {w w' : World} {B : Nat} (h : Touch X w w') (hX : ∀ k, X k → B ≤ k) (hB : B ≤ w.heap.size) : Below B w w' :=
  ⟨h.os, h.tape, h.output, h.size, fun k hk => h.block k (by omega) fun hx => by have := hX k hx; omega⟩
theorem Touch.alloc {X : Nat → Prop} {a w : World} (h : Touch X a w) (o : Obj) : Touch X a (w.alloc o) :=
  ⟨h.os, h.tape, h.output, by have := h.size; simp; omega, fun k hk hx => (Below.heap_alloc _ _ _ (Nat.lt_of_lt_of_le hk h.size)).trans (h.block k hk hx)⟩
theorem Touch.setCell {X : Nat → Prop} {a w : World} (h : Touch X a w) {p : Addr} (hp : p.block < a.heap.size → X p.block) (u : Value) : Touch X a (w.setCell p u) :=
  ⟨h.os, h.tape, h.output, by have := h.size; simpa [World.setCell] using this, fun k hk hx => (Below.heap_setCell _ _ _ _ (fun e => by subst e; exact hx (hp hk))).trans (h.block k hk hx)⟩
theorem Touch.drewN {X : Nat → Prop} {a w : World} (h : Touch X a w) (n : Nat) : Touch X a (w.drewN n) := ⟨h.os, h.tape, h.output, h.size, h.block⟩
theorem Touch.drew {X : Nat → Prop} {a w : World} (h : Touch X a w) : Touch X a w.drew := ⟨h.os, h.tape, h.output, h.size, h.block⟩
theorem Touch.cell {X : Nat → Prop} {w w' : World} (h : Touch X w w') {p : Addr} (hp : p.block < w.heap.size) (hx : ¬ X p.block) : w'.cell? p = w.cell? p := World.cell?_of_block (w := w) (h.block p.block hp hx)

theorem Touch.undrew {X : Nat → Prop} {w w' : World} (h : Touch X w.drew w') : Touch X w w' := ⟨h.os, h.tape, h.output, h.size, h.block⟩
theorem Touch.undrewN {X : Nat → Prop} {w w' : World} {n : Nat} (h : Touch X (w.drewN n) w') : Touch X w w' := ⟨h.os, h.tape, h.output, h.size, h.block⟩

/-- A block that is known whole, and may be written. -/
def Blk (w : World) (b : Nat) (cs : Array Value) (t : TypeId) : Prop := w.heap[b]? = some (.cells cs t (0, 0))
theorem Blk.lt {w : World} {b : Nat} {cs : Array Value} {t : TypeId} (h : Blk w b cs t) : b < w.heap.size := lt_of_block h
theorem Blk.cell {w : World} {b : Nat} {cs : Array Value} {t : TypeId} (h : Blk w b cs t) (i : Nat) {v : Value} (hv : cs[i]? = some v) : w.cell? ⟨b, i, none⟩ = some v := by
  unfold Blk at h
  simp [World.cell?, h, hv]
theorem Blk.free {w : World} {b : Nat} {cs : Array Value} {t : TypeId} (h : Blk w b cs t) (i : Nat) : w.frozen? ⟨b, i, none⟩ = false := by
  unfold Blk at h
  simp [World.frozen?, h]
theorem Blk.new (w : World) (cs : Array Value) (t : TypeId) : Blk (w.alloc (.cells cs t)) w.heap.size cs t := by
  show (w.heap.push _)[w.heap.size]? = _
  simp
theorem Blk.alloc {w : World} {b : Nat} {cs : Array Value} {t : TypeId} (h : Blk w b cs t) (o : Obj) : Blk (w.alloc o) b cs t := (Below.heap_alloc _ _ _ h.lt).trans h
theorem Blk.drewN {w : World} {b : Nat} {cs : Array Value} {t : TypeId} (h : Blk w b cs t) (n : Nat) : Blk (w.drewN n) b cs t := h
theorem Blk.drew {w : World} {b : Nat} {cs : Array Value} {t : TypeId} (h : Blk w b cs t) : Blk w.drew b cs t := h
theorem Blk.other {w : World} {b : Nat} {cs : Array Value} {t : TypeId} (h : Blk w b cs t) {p : Addr} (hp : p.block ≠ b) (v : Value) : Blk (w.setCell p v) b cs t := (Below.heap_setCell _ _ _ _ (Ne.symm hp)).trans h
theorem Blk.set {w : World} {b : Nat} {cs : Array Value} {t : TypeId} (h : Blk w b cs t) (i : Nat) (v : Value) : Blk (w.setCell ⟨b, i, none⟩ v) b (cs.setIfInBounds i v) t := by
  have hlt := h.lt
  unfold Blk at h
  have h' : w.heap[b] = .cells cs t (0, 0) := by simpa [Array.getElem?_eq_getElem hlt] using h
  show (w.heap.modify b _)[b]? = _
  rw [Array.getElem?_eq_getElem (by simpa using hlt), Array.getElem_modify_self, h']
  rfl
/-- .. and the cells written out. -/
theorem Blk.put {w : World} {b : Nat} {cs cs' : Array Value} {t : TypeId} (h : Blk w b cs t) (i : Nat) (v : Value) (e : cs.setIfInBounds i v = cs') : Blk (w.setCell ⟨b, i, none⟩ v) b cs' t := e ▸ h.set i v
theorem Blk.touch {X : Nat → Prop} {w w' : World} {b : Nat} {cs : Array Value} {t : TypeId} (h : Blk w b cs t) (k : Touch X w w') (hx : ¬ X b) : Blk w' b cs t := (k.block b h.lt hx).trans h
theorem Blk.below {w w' : World} {b B : Nat} {cs : Array Value} {t : TypeId} (h : Blk w b cs t) (k : Below B w w') (hb : b < B) : Blk w' b cs t := (k.block b hb).trans h
theorem Blk.later {w w' : World} {b : Nat} {cs : Array Value} {t : TypeId} (h : Blk w b cs t) (k : Below w.heap.size w w') : Blk w' b cs t := (k.block b h.lt).trans h

/-- A row of numbers in blocks that are none of these. -/
def RowOut (X : Nat → Prop) (a : Option Addr) (zs : List Int) : Prop := 0 < zs.length → ∀ b off, a = some ⟨b, off, none⟩ → ¬ X b
theorem Row.touch {X : Nat → Prop} {w w' : World} {k : IntKind} {a : Option Addr} {zs : List Int} (h : Row w k a zs) (t : Touch X w w') (hx : RowOut X a zs) : Row w' k a zs := by
  intro i hi
  obtain ⟨b, off, ha, hlt, hc⟩ := h i hi
  exact ⟨b, off, ha, Nat.lt_of_lt_of_le hlt t.size, (t.cell (p := ⟨b, off + i, none⟩) hlt (hx (by omega) b off ha)).trans hc⟩
theorem RowOut.mono {X Y : Nat → Prop} {a : Option Addr} {zs : List Int} (h : RowOut X a zs) (hXY : ∀ k, Y k → X k) : RowOut Y a zs := fun h0 b off ha hy => h h0 b off ha (hXY b hy)
/-- A row below a block number lies in none of the blocks from it on. -/
theorem Row.out {w : World} {k : IntKind} {a : Option Addr} {zs : List Int} (h : Row w k a zs) {X : Nat → Prop} (hX : ∀ k, X k → w.heap.size ≤ k) : RowOut X a zs := by
  intro h0 b off ha hx
  obtain ⟨b', off', ha', hlt, _⟩ := h 0 h0
  rw [ha] at ha'
  cases ha'
  have := hX b hx
  omega

end Go.Proofs.YtljdbaddockfcaaGreat.Pk

namespace Go.Proofs.YtljdbaddockfcaaGreat.Pk
open Go.RowKit
set_option linter.unusedVariables false
set_option linter.unusedSimpArgs false

/-- An array by its elements. -/
def arrV (f : Nat → Value) (n : Nat) : Array Value := ((List.range n).map f).toArray
theorem arrV_size (f : Nat → Value) (n : Nat) : (arrV f n).size = n := by simp [arrV]
theorem arrV_get {f : Nat → Value} {n i : Nat} (h : i < n) : (arrV f n)[i]? = some (f i) := by simp [arrV, h]
theorem arrV_set (f : Nat → Value) (n i : Nat) (v : Value) : (arrV f n).setIfInBounds i v = arrV (fun j => if j = i then v else f j) n := by
  unfold arrV
  apply Array.toList_inj.1
  rw [Array.toList_setIfInBounds]
  apply List.ext_getElem
  · simp
  · intro j h1 h2
    have hj : j < n := by simpa using h2
    simp [List.getElem_set]
    by_cases e : i = j
    · subst e; simp
    · have : ¬ j = i := fun h => e h.symm
      simp [e, this]
theorem arrV_congr {f g : Nat → Value} {n : Nat} (h : ∀ i, i < n → f i = g i) : arrV f n = arrV g n := by
  unfold arrV
  congr 1
  exact List.map_congr_left (fun i hi => h i (List.mem_range.1 hi))
theorem made_arr (z : Value) (hz : z.cells = #[z]) (n : Nat) : madeCells z.cells (n * 1) = arrV (fun _ => z) n := by
  unfold madeCells arrV
  have e : ∀ x : Nat, z.cells[x % z.cells.size]! = z := by
    intro x
    rw [hz]
    simp [Nat.mod_one]
  simp only [e]
  apply Array.ext <;> simp
theorem Blk.arr {w : World} {q : Nat} {f : Nat → Value} {n : Nat} {t : TypeId} (h : Blk w q (arrV f n) t) {i : Nat} (hi : i < n) : w.cell? ⟨q, i, none⟩ = some (f i) := h.cell i (arrV_get hi)
theorem Blk.arrRow {w : World} {q : Nat} {k : IntKind} {f : Nat → Int} {n : Nat} {t : TypeId} (h : Blk w q (arrV (fun i => .int k (f i)) n) t) : Row w k (some ⟨q, 0, none⟩) ((List.range n).map f) := by
  intro i hi
  have hi' : i < n := by simpa using hi
  refine ⟨q, 0, rfl, h.lt, ?_⟩
  rw [Nat.zero_add, h.arr hi']
  unfold nth
  simp [List.getD, hi']

end Go.Proofs.YtljdbaddockfcaaGreat.Pk

namespace Go.Proofs.YtljdbaddockfcaaGreat.Pk
open Go.RowKit
set_option linter.unusedVariables false
set_option linter.unusedSimpArgs false

/-- A row that fills the beginning of a block. -/
def OwnR (w : World) (k : IntKind) (a : Option Addr) (zs : List Int) : Prop :=
  zs.length = 0 ∨ ∃ b cs t, a = some ⟨b, 0, none⟩ ∧ Blk w b cs t ∧ ∀ i, i < zs.length → cs[i]? = some (.int k (nth zs i))
theorem OwnR.row {w : World} {k : IntKind} {a : Option Addr} {zs : List Int} (h : OwnR w k a zs) : Row w k a zs := by
  intro i hi
  rcases h with h | ⟨b, cs, t, rfl, hb, hc⟩
  · omega
  · exact ⟨b, 0, rfl, hb.lt, by rw [Nat.zero_add]; exact hb.cell i (hc i hi)⟩
theorem OwnR.later {w w' : World} {k : IntKind} {a : Option Addr} {zs : List Int} (h : OwnR w k a zs) (hb : Below w.heap.size w w') : OwnR w' k a zs := by
  rcases h with h | ⟨b, cs, t, rfl, hk, hc⟩
  · exact .inl h
  · exact .inr ⟨b, cs, t, rfl, hk.later hb, hc⟩
theorem OwnR.drw {w w' : World} {k : IntKind} {a : Option Addr} {zs : List Int} (h : OwnR w k a zs) (hb : Drw w w') : OwnR w' k a zs := h.later hb.new
theorem OwnR.alloc {w : World} {k : IntKind} {a : Option Addr} {zs : List Int} (h : OwnR w k a zs) (o : Obj) : OwnR (w.alloc o) k a zs := h.later (below_new w o)
theorem OwnR.touch {X : Nat → Prop} {w w' : World} {k : IntKind} {a : Option Addr} {zs : List Int} (h : OwnR w k a zs) (t : Touch X w w') (hx : RowOut X a zs) : OwnR w' k a zs := by
  rcases h with h | ⟨b, cs, t', rfl, hk, hc⟩
  · exact .inl h
  · by_cases h0 : zs.length = 0
    · exact .inl h0
    · exact .inr ⟨b, cs, t', rfl, hk.touch t (hx (by omega) b 0 rfl), hc⟩
/-- One of its numbers is written. -/
theorem OwnR.set {w : World} {k : IntKind} {zs : List Int} {b i : Nat} (h : OwnR w k (some ⟨b, 0, none⟩) zs) (hi : i < zs.length) (v : Int) : OwnR (w.setCell ⟨b, i, none⟩ (.int k v)) k (some ⟨b, 0, none⟩) (zs.set i v) := by
  rcases h with h | ⟨b', cs, t, e, hk, hc⟩
  · omega
  · cases e
    refine .inr ⟨b, _, t, rfl, hk.set i (.int k v), fun j hj => ?_⟩
    have hj' : j < zs.length := by simpa using hj
    have hcj := hc j hj'
    have hjs : j < cs.size := (Array.getElem?_eq_some_iff.1 hcj).1
    by_cases e : j = i
    · subst e
      rw [Array.getElem?_setIfInBounds_self_of_lt hjs]
      unfold nth; simp [List.getD, hi]
    · rw [Array.getElem?_setIfInBounds_ne (fun h => e h.symm), hcj]
      unfold nth
      rw [List.getD_eq_getElem?_getD, List.getD_eq_getElem?_getD, List.getElem?_set_ne (fun h => e h.symm)]
theorem OwnR.at {w : World} {k : IntKind} {a : Option Addr} {zs : List Int} (h : OwnR w k a zs) {i : Nat} (hi : i < zs.length) : ∃ b, a = some ⟨b, 0, none⟩ ∧ b < w.heap.size ∧ w.cell? ⟨b, i, none⟩ = some (.int k (nth zs i)) ∧ w.frozen? ⟨b, i, none⟩ = false := by
  rcases h with h | ⟨b, cs, t, rfl, hk, hc⟩
  · omega
  · exact ⟨b, rfl, hk.lt, hk.cell i (hc i hi), hk.free i⟩
theorem OwnR.of_owns {w : World} {B : Nat} {e : TypeId} {k : IntKind} {v : Value} {zs : List Int} (h : w.ownsRow B e 1 v zs.length (zs.map (Value.int k))) : ∃ a cap, v = .slice a zs.length cap ∧ OwnR w k a zs := by
  rcases h.2 with ⟨h1, h2⟩ | ⟨g, cap, cur, h1, _, hg, _, _, _, ht⟩
  · exact ⟨none, 0, by rw [h1, h2], .inl h2⟩
  · refine ⟨some ⟨g, 0, none⟩, cap, h1, .inr ⟨g, cur, e, rfl, hg, fun i hi => ?_⟩⟩
    have : (cur.toList.take (zs.length * 1))[i]? = (zs.map (Value.int k))[i]? := by rw [ht]
    rw [List.getElem?_take, if_pos (by omega), List.getElem?_map] at this
    rw [← Array.getElem?_toList, this]
    unfold nth
    simp [List.getD, hi]

end Go.Proofs.YtljdbaddockfcaaGreat.Pk

namespace Go.Proofs.YtljdbaddockfcaaGreat.Pk
open Go.RowKit
set_option linter.unusedVariables false
set_option linter.unusedSimpArgs false

set_option maxHeartbeats 600000 in
theorem same_yes (zs : List Int) (a b : Option Addr) (n ca cb : Nat) (w : World) (hn : zs.length = n) (ha : Row w .u32 a zs) (hb : Row w .u32 b zs) (hm : n ≤ maxLen) :
    Calls Tryz.prog 92 #[.slice a n ca, .slice b n cb] w fun e w' => e = .returned (.bool true) ∧ Drw w w' := by
  unfold maxLen at hm
  have HN := Lib.hid hn
  have HA := Lib.hid ha
  have HB := Lib.hid hb
  clear hn ha hb
  go_enter Tryz.func92, Tryz.ntmps92
  go_wp2
  go_loopw [5] (fun i wr => ∃ k : Nat, k ≤ n ∧ i = .int .i64 k ∧ Drw w wr) (fun i _ => n - (intOf i).toNat)
  case atStart => exact ⟨0, Nat.zero_le _, rfl, Drw.refl _⟩
  case round =>
    obtain ⟨k, hk, rfl, hd⟩ := hrel
    by_cases hlt : k < n
    · obtain ⟨b1, o1, rfl, hb1, hc1⟩ := (HA.out.drw hd) k (by rw [HN.out]; exact hlt)
      obtain ⟨b2, o2, rfl, hb2, hc2⟩ := (HB.out.drw hd) k (by rw [HN.out]; exact hlt)
      have i0 : (0 : Int) ≤ (k : Int) := by omega
      have i1 : (k : Int) < (n : Int) := by omega
      have HD := Lib.hid hd
      clear hd
      go_wp2_with fail
      go_quiet (fail)
      have hd : Drw w (wr.drewN nq) := HD.out.step _
      clear HD
      generalize wr.drewN nq = w2 at *
      go_wp2
      go_roundw
      case rel => exact ⟨k + 1, by omega, by go_num, hd⟩
      case measure => simp [intOf]; omega
    · go_wp2
      go_ret
      exact ⟨rfl, hd⟩

theorem same_yesN (zs : List Int) (a b : Option Addr) (n n2 ca cb : Nat) (w : World) (hn : zs.length = n) (ha : Row w .u32 a zs) (hb : Row w .u32 b zs) (hm : n ≤ maxLen) (hn2 : n2 = zs.length := by rfl) :
    Calls Tryz.prog 92 #[.slice a n2 ca, .slice b n cb] w fun e w' => e = .returned (.bool true) ∧ Drw w w' := by
  subst hn2
  subst hn
  exact same_yes zs a b zs.length ca cb w rfl ha hb hm

end Go.Proofs.YtljdbaddockfcaaGreat.Pk
