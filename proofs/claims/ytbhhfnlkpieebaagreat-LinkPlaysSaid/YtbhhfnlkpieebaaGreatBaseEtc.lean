/-
  Texts laid together: Base, NumMath, PackFn, TagMath, ShapeMath.
-/
import Derived.WalkKit
import Derived.WalkSpells
import Derived.WalkLawsBesides
import Derived.Deep.QuietTactic
import Derived.BigQuiet
import Derived.Lib.Hide
import Derived.Laws.NewBlocks
import Derived.OneCell
import Derived.Laws.MakeOwn
import Derived.Laws.OwnMore
import Derived.Test.YtbhhfnlkpieebaaGreatProg
import Derived.IntWalk
namespace Go.Proofs.YtbhhfnlkpieebaaGreat.Pk
open Lib (hid)
open Go.RowKit
set_option linter.unusedVariables false
set_option linter.unusedSimpArgs false
def nth (zs : List Int) (i : Nat) : Int := zs.getD i 0
def Row (w : World) (k : IntKind) (a : Option Addr) (zs : List Int) : Prop :=
 ∀ i, i < zs.length → ∃ b off, a = some ⟨b, off, none⟩ ∧ b < w.heap.size ∧ w.cell? ⟨b, off + i, none⟩ = some (.int k (nth zs i))
theorem Row.nil (w : World) (k : IntKind) (a : Option Addr) : Row w k a [] := fun _ h => absurd h (Nat.not_lt_zero _)
theorem Row.below {w w' : World} {k : IntKind} {a : Option Addr} {zs : List Int} {B : Nat} (h : Row w k a zs) (hb : Below B w w') (hB : w.heap.size ≤ B) : Row w' k a zs := by
 intro i hi
 obtain ⟨b, off, ha, hlt, hc⟩ := h i hi
 exact ⟨b, off, ha, Nat.lt_of_lt_of_le hlt hb.size, by rw [hb.cell (p := ⟨b, off + i, none⟩) (Nat.lt_of_lt_of_le hlt hB)]; exact hc⟩
theorem Row.drewN {w : World} {k : IntKind} {a : Option Addr} {zs : List Int} (h : Row w k a zs) (n : Nat) : Row (w.drewN n) k a zs := by
 intro i hi
 obtain ⟨b, off, ha, hlt, hc⟩ := h i hi
 exact ⟨b, off, ha, hlt, hc⟩
theorem Row.alloc {w : World} {k : IntKind} {a : Option Addr} {zs : List Int} (h : Row w k a zs) (o : Obj) : Row (w.alloc o) k a zs :=
 h.below ((Below.refl w.heap.size w).alloc (Nat.le_refl _) o) (Nat.le_refl _)
theorem Row.later {w w' : World} {k : IntKind} {a : Option Addr} {zs : List Int} (h : Row w k a zs) (hb : Below w.heap.size w w') : Row w' k a zs := h.below hb (Nat.le_refl _)
theorem ay {w w1 w2 : World} (h : Below w.heap.size w w1) (h2 : Below w1.heap.size w1 w2) : Below w.heap.size w w2 := h.trans (h2.mono h.size)
theorem ah (w : World) (o : Obj) : Below w.heap.size w (w.alloc o) := (Below.refl _ _).alloc (Nat.le_refl _) o
theorem kR {w w1 : World} (h : Below w.heap.size w w1) {p : Addr} (hp : w.heap.size ≤ p.block) (u : Value) : Below w.heap.size w (w1.setCell p u) := h.setCell hp u
theorem wC {w : World} {a : Addr} {v : Value} (h : w.cell? a = some v) : a.block < w.heap.size := by
 by_cases hlt : a.block < w.heap.size
 · exact hlt
 · unfold World.cell? at h
   rw [Array.getElem?_eq_none (by omega)] at h
   cases h
theorem zi {w : World} {a : Addr} {v : Value} (h : w.cell? a = some v) : a.spot = none := by
 unfold World.cell? at h
 split at h
 · split at h
   · cases h
   · rename_i hs
     cases hsp : a.spot with
     | none => rfl
     | some k => rw [hsp] at hs; exact absurd rfl hs
 · cases h
theorem Me {W : World} {k : IntKind} {x : Addr} {len cap : Nat} {zs : List Int} (hl : len ≤ cap) (hm : cap ≤ maxLen) (hz : zs.length = cap)
   (hcell : ∀ i, i < zs.length → W.cell? (x.add i) = some (.int k (zs.getD i 0))) (hwz : ∀ n ∈ zs, (Lit.int k n).wf = true) :
   ∃ es : List Int, len = es.length ∧ Row W k (some x) es ∧ (∀ n ∈ es, (Lit.int k n).wf = true) ∧ len ≤ maxLen := by
 refine ⟨zs.take len, by simp; omega, ?_, fun n hn => hwz n (List.mem_of_mem_take hn), Nat.le_trans hl hm⟩
 intro i hi
 have hi1 : i < len := by simp at hi; omega
 obtain ⟨b, off, spot⟩ := x
 have hs := zi (hcell 0 (by omega))
 simp [Addr.add] at hs
 subst hs
 have hadd : (⟨b, off, none⟩ : Addr).add i = ⟨b, off + i, none⟩ := by
   unfold Addr.add
   by_cases h0 : i = 0
   · subst h0; rfl
   · simp [h0]
 have hc := hcell i (by omega)
 rw [hadd] at hc
 refine ⟨b, off, rfl, wC hc, ?_⟩
 rw [hc]
 unfold nth
 simp [List.getD, hi1]
def fe (w w' : World) : Prop := ∃ m, w' = w.drewN m
theorem fe.refl (w : World) : fe w w := ⟨0, rfl⟩
theorem fe.step {w w' : World} (h : fe w w') (n : Nat) : fe w (w'.drewN n) := by
 obtain ⟨m, rfl⟩ := h; exact ⟨m + n, World.drewN_drewN _ _ _⟩
theorem fe.size {w w' : World} (h : fe w w') : w'.heap.size = w.heap.size := by obtain ⟨m, rfl⟩ := h; rfl
theorem fe.below {w w' : World} (h : fe w w') (B : Nat) : Below B w w' := by obtain ⟨m, rfl⟩ := h; exact ⟨rfl, rfl, rfl, Nat.le_refl _, fun _ _ => rfl⟩
theorem fe.new {w w' : World} (h : fe w w') : Below w.heap.size w w' := h.below _
theorem Row.gy {w w' : World} {k : IntKind} {a : Option Addr} {zs : List Int} (h : Row w k a zs) (d : fe w w') : Row w' k a zs := by
 obtain ⟨m, rfl⟩ := d; exact h.drewN m
theorem aK {a b : Bool} (h : a = b) : Ending.returned (.bool a) = .returned (.bool b) := by rw [h]
theorem bG {k : IntKind} {a b : Int} (h : a = b) : Ending.returned (.int k a) = .returned (.int k b) := by rw [h]
theorem DF {P : Program} {f : FuncId} {args : Array Value} {w : World} {n : Nat} {v : Value}
   (h : Calls P f args (w.drewN n) fun e w' => e = .returned v ∧ w.drewN n = w') : Calls P f args (w.drewN n) fun e w'' => e = .returned v ∧ ∃ m, w'' = w.drewN m :=
 h.mono fun _ _ ⟨he, hm⟩ => ⟨he, n, hm.symm⟩
theorem Row.nV {w : World} {B : Nat} {e : TypeId} {k : IntKind} {v : Value} {zs : List Int} (h : w.ownsRow B e 1 v zs.length (zs.map (Value.int k))) :
   ∃ a cap, v = .slice a zs.length cap ∧ Row w k a zs := by
 rcases h.2 with ⟨h1, h2⟩ | ⟨g, cap, cur, h1, _, hg, _⟩
 · refine ⟨none, 0, by rw [h1, h2], fun i hi => ?_⟩
   omega
 · refine ⟨some ⟨g, 0, none⟩, cap, h1, fun i hi => ⟨g, 0, rfl, ?_, ?_⟩⟩
   · by_cases hlt : g < w.heap.size
     · exact hlt
     · rw [Array.getElem?_eq_none (by omega)] at hg
       cases hg
   · subst h1
     have hc := h.cellAt i (by omega)
     rw [Nat.zero_add, hc, List.getElem?_map]
     show Option.map (Value.int k) zs[i]? = some (Value.int k (zs.getD i 0))
     simp [List.getD, hi]
theorem aP {w : World} {B : Nat} {e : TypeId} {size : Nat} {v : Value} {n : Nat} {xs : List Value} (h : w.ownsRow B e size v n xs) : ∀ k, v.ownBlock = some k → B ≤ k := by
 intro k hk
 rcases h.2 with ⟨h1, _⟩ | ⟨g, cap, cur, h1, hb, _⟩
 · subst h1; cases hk
 · subst h1
   simp [Value.ownBlock] at hk
   omega
theorem Row.lit (w : World) (k : IntKind) (zs : List Int) (t : TypeId) : Row (w.alloc (.cells (zs.map (Value.int k)).toArray t)) k (some ⟨w.heap.size, 0, none⟩) zs := by
 intro i hi
 refine ⟨w.heap.size, 0, rfl, by simp, ?_⟩
 rw [Nat.zero_add, World.cell?_alloc_at _ _ _ _ rfl]
 show (zs.map (Value.int k)).toArray[i]? = some (Value.int k (zs.getD i 0))
 simp [List.getD, hi]
theorem GA {B : Nat} {W w1 : World} (hb : Below B W w1) : (∀ b o, b < B → w1.cell? ⟨b, o, none⟩ = W.cell? ⟨b, o, none⟩) ∧ (∀ b o, b < B → w1.frozen? ⟨b, o, none⟩ = W.frozen? ⟨b, o, none⟩) :=
 ⟨fun b o h => hb.cell (p := ⟨b, o, none⟩) h, fun b o h => hb.frozen (p := ⟨b, o, none⟩) h⟩
structure Touch (X : Nat → Prop) (w w' : World) : Prop where
 os : w'.os = w.os
 tape : w'.tape = w.tape
 output : w'.output = w.output
 size : w.heap.size ≤ w'.heap.size
 block : ∀ k, k < w.heap.size → ¬ X k → w'.heap[k]? = w.heap[k]?
theorem Touch.refl (X : Nat → Prop) (w : World) : Touch X w w := ⟨rfl, rfl, rfl, Nat.le_refl _, fun _ _ _ => rfl⟩
theorem Touch.trans {X : Nat → Prop} {a b c : World} (h : Touch X a b) (k : Touch X b c) : Touch X a c :=
 ⟨k.os.trans h.os, k.tape.trans h.tape, k.output.trans h.output, Nat.le_trans h.size k.size, fun i hi hx => (k.block i (Nat.lt_of_lt_of_le hi h.size) hx).trans (h.block i hi hx)⟩
theorem Touch.mono {X Y : Nat → Prop} {w w' : World} (h : Touch X w w') (hXY : ∀ k, k < w.heap.size → X k → Y k) : Touch Y w w' :=
 ⟨h.os, h.tape, h.output, h.size, fun k hk hy => h.block k hk fun hx => hy (hXY k hk hx)⟩
theorem Touch.of_below {X : Nat → Prop} {w w' : World} (h : Below w.heap.size w w') : Touch X w w' := ⟨h.os, h.tape, h.output, h.size, fun k hk _ => h.block k hk⟩
theorem Touch.below {X : Nat → Prop} {w w' : World} {B : Nat} (h : Touch X w w') (hX : ∀ k, X k → B ≤ k) (hB : B ≤ w.heap.size) : Below B w w' :=
 ⟨h.os, h.tape, h.output, h.size, fun k hk => h.block k (by omega) fun hx => by have := hX k hx; omega⟩
theorem Touch.alloc {X : Nat → Prop} {a w : World} (h : Touch X a w) (o : Obj) : Touch X a (w.alloc o) :=
 ⟨h.os, h.tape, h.output, by have := h.size; simp; omega, fun k hk hx => (Below.heap_alloc _ _ _ (Nat.lt_of_lt_of_le hk h.size)).trans (h.block k hk hx)⟩
theorem Touch.setCell {X : Nat → Prop} {a w : World} (h : Touch X a w) {p : Addr} (hp : p.block < a.heap.size → X p.block) (u : Value) : Touch X a (w.setCell p u) :=
 ⟨h.os, h.tape, h.output, by have := h.size; simpa [World.setCell] using this, fun k hk hx => (Below.heap_setCell _ _ _ _ (fun e => by subst e; exact hx (hp hk))).trans (h.block k hk hx)⟩
theorem Touch.drewN {X : Nat → Prop} {a w : World} (h : Touch X a w) (n : Nat) : Touch X a (w.drewN n) := ⟨h.os, h.tape, h.output, h.size, h.block⟩
theorem Touch.drew {X : Nat → Prop} {a w : World} (h : Touch X a w) : Touch X a w.drew := ⟨h.os, h.tape, h.output, h.size, h.block⟩
theorem Touch.cell {X : Nat → Prop} {w w' : World} (h : Touch X w w') {p : Addr} (hp : p.block < w.heap.size) (hx : ¬ X p.block) : w'.cell? p = w.cell? p := World.cell?_of_block (w := w) (h.block p.block hp hx)
theorem Touch.qc {X : Nat → Prop} {w w' : World} (h : Touch X w.drew w') : Touch X w w' := ⟨h.os, h.tape, h.output, h.size, h.block⟩
def aU (w : World) (b : Nat) (cs : Array Value) (t : TypeId) : Prop := w.heap[b]? = some (.cells cs t (0, 0))
theorem aU.lt {w : World} {b : Nat} {cs : Array Value} {t : TypeId} (h : aU w b cs t) : b < w.heap.size := lt_of_block h
theorem aU.cell {w : World} {b : Nat} {cs : Array Value} {t : TypeId} (h : aU w b cs t) (i : Nat) {v : Value} (hv : cs[i]? = some v) : w.cell? ⟨b, i, none⟩ = some v := by
 unfold aU at h
 simp [World.cell?, h, hv]
theorem aU.free {w : World} {b : Nat} {cs : Array Value} {t : TypeId} (h : aU w b cs t) (i : Nat) : w.frozen? ⟨b, i, none⟩ = false := by
 unfold aU at h
 simp [World.frozen?, h]
theorem aU.new (w : World) (cs : Array Value) (t : TypeId) : aU (w.alloc (.cells cs t)) w.heap.size cs t := by
 show (w.heap.push _)[w.heap.size]? = _
 simp
theorem aU.alloc {w : World} {b : Nat} {cs : Array Value} {t : TypeId} (h : aU w b cs t) (o : Obj) : aU (w.alloc o) b cs t := (Below.heap_alloc _ _ _ h.lt).trans h
theorem aU.drewN {w : World} {b : Nat} {cs : Array Value} {t : TypeId} (h : aU w b cs t) (n : Nat) : aU (w.drewN n) b cs t := h
theorem aU.drew {w : World} {b : Nat} {cs : Array Value} {t : TypeId} (h : aU w b cs t) : aU w.drew b cs t := h
theorem aU.other {w : World} {b : Nat} {cs : Array Value} {t : TypeId} (h : aU w b cs t) {p : Addr} (hp : p.block ≠ b) (v : Value) : aU (w.setCell p v) b cs t := (Below.heap_setCell _ _ _ _ (Ne.symm hp)).trans h
theorem aU.set {w : World} {b : Nat} {cs : Array Value} {t : TypeId} (h : aU w b cs t) (i : Nat) (v : Value) : aU (w.setCell ⟨b, i, none⟩ v) b (cs.setIfInBounds i v) t := by
 have hlt := h.lt
 unfold aU at h
 have h' : w.heap[b] = .cells cs t (0, 0) := by simpa [Array.getElem?_eq_getElem hlt] using h
 show (w.heap.modify b _)[b]? = _
 rw [Array.getElem?_eq_getElem (by simpa using hlt), Array.getElem_modify_self, h']
 rfl
theorem aU.put {w : World} {b : Nat} {cs cs' : Array Value} {t : TypeId} (h : aU w b cs t) (i : Nat) (v : Value) (e : cs.setIfInBounds i v = cs') : aU (w.setCell ⟨b, i, none⟩ v) b cs' t := e ▸ h.set i v
theorem aU.touch {X : Nat → Prop} {w w' : World} {b : Nat} {cs : Array Value} {t : TypeId} (h : aU w b cs t) (k : Touch X w w') (hx : ¬ X b) : aU w' b cs t := (k.block b h.lt hx).trans h
theorem aU.later {w w' : World} {b : Nat} {cs : Array Value} {t : TypeId} (h : aU w b cs t) (k : Below w.heap.size w w') : aU w' b cs t := (k.block b h.lt).trans h
def nI (X : Nat → Prop) (a : Option Addr) (zs : List Int) : Prop := 0 < zs.length → ∀ b off, a = some ⟨b, off, none⟩ → ¬ X b
theorem Row.touch {X : Nat → Prop} {w w' : World} {k : IntKind} {a : Option Addr} {zs : List Int} (h : Row w k a zs) (t : Touch X w w') (hx : nI X a zs) : Row w' k a zs := by
 intro i hi
 obtain ⟨b, off, ha, hlt, hc⟩ := h i hi
 exact ⟨b, off, ha, Nat.lt_of_lt_of_le hlt t.size, (t.cell (p := ⟨b, off + i, none⟩) hlt (hx (by omega) b off ha)).trans hc⟩
def rC (f : Nat → Value) (n : Nat) : Array Value := ((List.range n).map f).toArray
theorem Km {f : Nat → Value} {n i : Nat} (h : i < n) : (rC f n)[i]? = some (f i) := by simp [rC, h]
theorem Lj (z : Value) (hz : z.cells = #[z]) (n : Nat) : madeCells z.cells (n * 1) = rC (fun _ => z) n := by
 unfold madeCells rC
 have e : ∀ x : Nat, z.cells[x % z.cells.size]! = z := by
   intro x
   rw [hz]
   simp [Nat.mod_one]
 simp only [e]
 apply Array.ext <;> simp
def dY (w : World) (k : IntKind) (a : Option Addr) (zs : List Int) : Prop :=
 zs.length = 0 ∨ ∃ b cs t, a = some ⟨b, 0, none⟩ ∧ aU w b cs t ∧ ∀ i, i < zs.length → cs[i]? = some (.int k (nth zs i))
theorem dY.row {w : World} {k : IntKind} {a : Option Addr} {zs : List Int} (h : dY w k a zs) : Row w k a zs := by
 intro i hi
 rcases h with h | ⟨b, cs, t, rfl, hb, hc⟩
 · omega
 · exact ⟨b, 0, rfl, hb.lt, by rw [Nat.zero_add]; exact hb.cell i (hc i hi)⟩
theorem dY.later {w w' : World} {k : IntKind} {a : Option Addr} {zs : List Int} (h : dY w k a zs) (hb : Below w.heap.size w w') : dY w' k a zs := by
 rcases h with h | ⟨b, cs, t, rfl, hk, hc⟩
 · exact .inl h
 · exact .inr ⟨b, cs, t, rfl, hk.later hb, hc⟩
theorem dY.touch {X : Nat → Prop} {w w' : World} {k : IntKind} {a : Option Addr} {zs : List Int} (h : dY w k a zs) (t : Touch X w w') (hx : nI X a zs) : dY w' k a zs := by
 rcases h with h | ⟨b, cs, t', rfl, hk, hc⟩
 · exact .inl h
 · by_cases h0 : zs.length = 0
   · exact .inl h0
   · exact .inr ⟨b, cs, t', rfl, hk.touch t (hx (by omega) b 0 rfl), hc⟩
theorem dY.set {w : World} {k : IntKind} {zs : List Int} {b i : Nat} (h : dY w k (some ⟨b, 0, none⟩) zs) (hi : i < zs.length) (v : Int) : dY (w.setCell ⟨b, i, none⟩ (.int k v)) k (some ⟨b, 0, none⟩) (zs.set i v) := by
 rcases h with h | ⟨b', cs, t, e, hk, hc⟩
 · omega
 · cases e
   refine .inr ⟨b, _, t, rfl, hk.set i (.int k v), fun j hj => ?_⟩
   have hj' : j < zs.length := by simpa using hj
   have hcj := hc j hj'
   have hjs : j < cs.size := (Array.getElem?_eq_some_iff.1 hcj).1
   by_cases e : j = i
   · subst e
     rw [Array.getElem?_setIfInBounds_self_of_lt hjs]
     unfold nth; simp [List.getD, hi]
   · rw [Array.getElem?_setIfInBounds_ne (fun h => e h.symm), hcj]
     unfold nth
     rw [List.getD_eq_getElem?_getD, List.getD_eq_getElem?_getD, List.getElem?_set_ne (fun h => e h.symm)]
theorem dY.at {w : World} {k : IntKind} {a : Option Addr} {zs : List Int} (h : dY w k a zs) {i : Nat} (hi : i < zs.length) : ∃ b, a = some ⟨b, 0, none⟩ ∧ b < w.heap.size ∧ w.cell? ⟨b, i, none⟩ = some (.int k (nth zs i)) ∧ w.frozen? ⟨b, i, none⟩ = false := by
 rcases h with h | ⟨b, cs, t, rfl, hk, hc⟩
 · omega
 · exact ⟨b, rfl, hk.lt, hk.cell i (hc i hi), hk.free i⟩
theorem dY.nV {w : World} {B : Nat} {e : TypeId} {k : IntKind} {v : Value} {zs : List Int} (h : w.ownsRow B e 1 v zs.length (zs.map (Value.int k))) : ∃ a cap, v = .slice a zs.length cap ∧ dY w k a zs := by
 rcases h.2 with ⟨h1, h2⟩ | ⟨g, cap, cur, h1, _, hg, _, _, _, ht⟩
 · exact ⟨none, 0, by rw [h1, h2], .inl h2⟩
 · refine ⟨some ⟨g, 0, none⟩, cap, h1, .inr ⟨g, cur, e, rfl, hg, fun i hi => ?_⟩⟩
   have : (cur.toList.take (zs.length * 1))[i]? = (zs.map (Value.int k))[i]? := by rw [ht]
   rw [List.getElem?_take, if_pos (by omega), List.getElem?_map] at this
   rw [← Array.getElem?_toList, this]
   unfold nth
   simp [List.getD, hi]
set_option maxHeartbeats 600000 in
theorem Mf (zs : List Int) (a b : Option Addr) (n ca cb : Nat) (w : World) (hn : zs.length = n) (ha : Row w .u32 a zs) (hb : Row w .u32 b zs) (hm : n ≤ maxLen) :
   Calls Tryz.prog 88 #[.slice a n ca, .slice b n cb] w fun e w' => e = .returned (.bool true) ∧ fe w w' := by
 unfold maxLen at hm
 have HN := hid hn
 have HA := hid ha
 have HB := hid hb
 clear hn ha hb
 go_enter Tryz.func88, Tryz.ntmps88
 go_wp2
 go_loopw [5] (fun i wr => ∃ k : Nat, k ≤ n ∧ i = .int .i64 k ∧ fe w wr) (fun i _ => n - (intOf i).toNat)
 case atStart => exact ⟨0, Nat.zero_le _, rfl, fe.refl _⟩
 case round =>
   obtain ⟨k, hk, rfl, hd⟩ := hrel
   by_cases hlt : k < n
   · obtain ⟨b1, o1, rfl, hb1, hc1⟩ := (HA.out.gy hd) k (by rw [HN.out]; exact hlt)
     obtain ⟨b2, o2, rfl, hb2, hc2⟩ := (HB.out.gy hd) k (by rw [HN.out]; exact hlt)
     have i0 : (0 : Int) ≤ (k : Int) := by omega
     have i1 : (k : Int) < (n : Int) := by omega
     have HD := hid hd
     clear hd
     go_wp2_with fail
     go_quiet (fail)
     have hd : fe w (wr.drewN nq) := HD.out.step _
     clear HD
     generalize wr.drewN nq = w2 at *
     go_wp2
     go_roundw
     case rel => exact ⟨k + 1, by omega, by go_num, hd⟩
     case measure => simp [intOf]; omega
   · go_wp2
     go_ret
     exact ⟨rfl, hd⟩
def lw (n lo hi : Int) : Int := if hi < n then hi else if n < lo then lo else n
def cnt (n : Int) : Int := lw n 0 1125899906842624
def JS (n : Int) : Int := if cnt n = 0 then 1 else cnt n
def jr (a b : Int) : Int := if 0 < b ∧ 1125899906842624 / b < a then 1125899906842624 else a * b
def Kw (a b : Int) : Int := cnt a / JS b
def QP (a b : Int) : Int := (cnt a + JS b - 1) / JS b
theorem fA (n : Int) : 0 ≤ cnt n ∧ cnt n ≤ 1125899906842624 := by
 unfold cnt lw; split
 · omega
 · split <;> omega
theorem iJ {n : Int} (h0 : 0 ≤ n) (h1 : n ≤ 1125899906842624) : cnt n = n := by
 unfold cnt lw; rw [if_neg (by omega), if_neg (by omega)]
theorem Pt {n : Int} (h1 : n ≤ 0) : cnt n = 0 := by
 unfold cnt lw; rw [if_neg (by omega)]; split
 · rfl
 · omega
theorem qj (n : Int) : cnt n = max 0 (min n 1125899906842624) := by
 unfold cnt lw; split
 · omega
 · split <;> omega
theorem Kq (n : Int) : 1 ≤ JS n ∧ JS n ≤ 1125899906842624 := by
 have := fA n
 unfold JS; split <;> omega
theorem Nk (n : Int) : JS n = max (cnt n) 1 := by
 have := fA n
 unfold JS; split <;> omega
theorem nk {a b : Int} (ha : 0 ≤ a) (hb : 0 ≤ b) (ha2 : a ≤ 1125899906842624) (hb2 : b ≤ 1125899906842624) : jr a b = min 1125899906842624 (a * b) := by
 unfold jr
 by_cases h : 0 < b ∧ 1125899906842624 / b < a
 · rw [if_pos h]
   have h1 := Int.emod_add_mul_ediv 1125899906842624 b
   have h2 := Int.emod_lt_of_pos 1125899906842624 h.1
   have h3 : b * (1125899906842624 / b + 1) ≤ b * a := Int.mul_le_mul_of_nonneg_left (by omega) hb
   rw [Int.mul_add, Int.mul_comm b a] at h3
   omega
 · rw [if_neg h]
   by_cases hb0 : b = 0
   · subst hb0; rw [Int.mul_zero]; decide
   · have hp : 0 < b := by omega
     have h4 : a ≤ 1125899906842624 / b := by
       by_cases h5 : 1125899906842624 / b < a
       · exact absurd ⟨hp, h5⟩ h
       · omega
     have h5 : b * a ≤ b * (1125899906842624 / b) := Int.mul_le_mul_of_nonneg_left h4 hb
     have h6 := Int.mul_ediv_self_le (x := 1125899906842624) (k := b) (by omega)
     rw [Int.mul_comm b a] at h5
     omega
theorem Ms {a b : Int} (ha : 0 ≤ a) (hb : 0 ≤ b) (ha2 : a ≤ 1125899906842624) (hb2 : b ≤ 1125899906842624) : 0 ≤ jr a b ∧ jr a b ≤ 1125899906842624 := by
 rw [nk ha hb ha2 hb2]
 have := Int.mul_nonneg ha hb
 omega
def iX (l : List Int) : Int := l.foldl (fun s n => cnt (s + cnt n)) 0
def lX (l : List Int) : Int := l.foldl (fun s n => jr s (cnt n)) 1
def qQ (l : List Int) (k : Nat) : Int := iX (l.take k)
def qZ (l : List Int) (k : Nat) : Int := lX (l.take k)
theorem tN {l : List Int} {k : Nat} (h : k < l.length) : l.take (k + 1) = l.take k ++ [nth l k] := by
 rw [List.take_succ_eq_append_getElem h]; unfold nth; simp [List.getD, h]
theorem wu {l : List Int} {k : Nat} (h : k < l.length) : qQ l (k + 1) = cnt (qQ l k + cnt (nth l k)) := by
 unfold qQ iX; rw [tN h, List.foldl_append]; rfl
theorem zb (l : List Int) : qQ l l.length = iX l := by unfold qQ; rw [List.take_length]
theorem xc {l : List Int} {k : Nat} (h : k < l.length) : qZ l (k + 1) = jr (qZ l k) (cnt (nth l k)) := by
 unfold qZ lX; rw [tN h, List.foldl_append]; rfl
theorem zH (l : List Int) : qZ l l.length = lX l := by unfold qZ; rw [List.take_length]
def tK : List Int → Int
 | [] => 0
 | n :: l => cnt n + tK l
def mX : List Int → Int
 | [] => 1
 | n :: l => cnt n * mX l
theorem Ig (l : List Int) : 0 ≤ tK l := by
 induction l with
 | nil => exact Int.le_refl _
 | cons n l ih => have := fA n; show 0 ≤ cnt n + tK l; omega
theorem Du (l : List Int) : 0 ≤ mX l := by
 induction l with
 | nil => decide
 | cons n l ih => exact Int.mul_nonneg (fA n).1 ih
theorem Ea (l m : List Int) : tK (l ++ m) = tK l + tK m := by
 induction l with
 | nil => show tK m = 0 + tK m; omega
 | cons n l ih => show cnt n + tK (l ++ m) = cnt n + tK l + tK m; rw [ih]; omega
theorem Bb (l m : List Int) : mX (l ++ m) = mX l * mX m := by
 induction l with
 | nil => show mX m = 1 * mX m; omega
 | cons n l ih => show cnt n * mX (l ++ m) = cnt n * mX l * mX m; rw [ih, Int.mul_assoc]
theorem Mk (n : Int) : tK [n] = cnt n := by show cnt n + 0 = cnt n; omega
theorem Jr (n : Int) : mX [n] = cnt n := by show cnt n * 1 = cnt n; omega
theorem Ki (l : List Int) : iX l = min 1125899906842624 (tK l) := by
 have h : ∀ k, k ≤ l.length → qQ l k = min 1125899906842624 (tK (l.take k)) := by
   intro k
   induction k with
   | zero => intro _; rfl
   | succ k ih =>
     intro hk
     rw [wu hk, ih (by omega), tN hk, Ea, Mk, qj]
     have h1 := Ig (l.take k)
     have h2 := fA (nth l k)
     omega
 have := h l.length (Nat.le_refl _)
 rwa [zb, List.take_length] at this
theorem Gz (l : List Int) : 0 ≤ iX l ∧ iX l ≤ 1125899906842624 := by
 rw [Ki]; have := Ig l; omega
theorem Kj (l : List Int) (k : Nat) : 0 ≤ qQ l k ∧ qQ l k ≤ 1125899906842624 := Gz _
theorem min_mul {p c : Int} (hp : 0 ≤ p) (hc : 0 ≤ c) : min 1125899906842624 (min 1125899906842624 p * c) = min 1125899906842624 (p * c) := by
 by_cases h : p ≤ 1125899906842624
 · rw [show min 1125899906842624 p = p by omega]
 · rw [show min 1125899906842624 p = 1125899906842624 by omega]
   by_cases h0 : c = 0
   · subst h0; rw [Int.mul_zero, Int.mul_zero]
   · have h1 : 1125899906842624 * 1 ≤ 1125899906842624 * c := Int.mul_le_mul_of_nonneg_left (by omega) (by decide)
     have h2 : 1125899906842624 * c ≤ p * c := Int.mul_le_mul_of_nonneg_right (by omega) hc
     omega
theorem FI (l : List Int) : ∀ k, k ≤ l.length → qZ l k = min 1125899906842624 (mX (l.take k)) := by
 intro k
 induction k with
 | zero => intro _; rfl
 | succ k ih =>
   intro hk
   have h1 := Du (l.take k)
   have h2 := fA (nth l k)
   rw [xc hk, ih (by omega), tN hk, Bb, Jr, nk (by omega) h2.1 (by omega) h2.2, min_mul h1 h2.1]
theorem Jg (l : List Int) : lX l = min 1125899906842624 (mX l) := by
 have := FI l l.length (Nat.le_refl _)
 rwa [zH, List.take_length] at this
theorem NT (l : List Int) : 0 ≤ lX l ∧ lX l ≤ 1125899906842624 := by
 rw [Jg]; have := Du l; omega
theorem Lr (l : List Int) (k : Nat) : 0 ≤ qZ l k ∧ qZ l k ≤ 1125899906842624 := NT _
theorem Ip (l : List Int) (n : Int) : iX (l ++ [n]) = cnt (iX l + cnt n) := by
 unfold iX; rw [List.foldl_append]; rfl
theorem BN (a b : Int) : iX [a, b] = cnt (cnt a + cnt b) := by
 show cnt (cnt (0 + cnt a) + cnt b) = _
 rw [Int.zero_add, iJ (fA a).1 (fA a).2]
theorem Df (a b : Int) : lX [a, b] = jr (cnt a) (cnt b) := by
 show jr (jr 1 (cnt a)) (cnt b) = _
 rw [nk (by decide) (fA a).1 (by decide) (fA a).2, Int.one_mul]
 have := fA a
 rw [show min 1125899906842624 (cnt a) = cnt a by omega]
structure May (N W R K : Int) : Prop where
 n0 : 1 ≤ N
 n1 : N ≤ 1048576
 w0 : 16 ≤ W
 w1 : W ≤ 256
 r0 : 1 ≤ R
 r1 : R ≤ 4096
 k0 : 1 ≤ K
 k1 : K ≤ 65536
 nw : N * W ≤ 4194304
theorem Kr {n lo hi : Int} (h0 : lo ≤ n) (h1 : n ≤ hi) : lw n lo hi = n := by
 unfold lw; rw [if_neg (by omega), if_neg (by omega)]
theorem nJ {a b : Int} (ha : 0 ≤ a) (hb : 0 ≤ b) (h : a + b ≤ 1125899906842624) : iX [a, b] = a + b := by
 rw [BN, iJ ha (by omega), iJ hb (by omega), iJ (by omega) h]
theorem Nh {a b c : Int} (ha : 0 ≤ a) (hb : 0 ≤ b) (hc : 0 ≤ c) (h : a + b + c ≤ 1125899906842624) : iX [a, b, c] = a + b + c := by
 have := Ip [a, b] c
 rw [show [a, b] ++ [c] = [a, b, c] from rfl, nJ ha hb (by omega), iJ hc (by omega), iJ (by omega) h] at this
 exact this
theorem mh {a b : Int} (ha : 0 ≤ a) (hb : 0 ≤ b) (h1 : a ≤ 1125899906842624) (h2 : b ≤ 1125899906842624) (h : a * b ≤ 1125899906842624) : lX [a, b] = a * b := by
 rw [Df, iJ ha h1, iJ hb h2, nk ha hb h1 h2]
 omega
theorem ME {a b : Int} (ha : 0 ≤ a) (h1 : a ≤ 1125899906842624) (hb : 1 ≤ b) (h2 : b ≤ 1125899906842624) : QP a b = (a + b - 1) / b := by
 have e : JS b = b := by unfold JS; rw [iJ (by omega) h2, if_neg (by omega)]
 unfold QP
 rw [e, iJ ha h1]
def BI (N W R : Int) : Int := 24 + R + N * W
def ja (N W : Int) : Int := N * (W + 1)
def iK (N W : Int) : Int := 3 * (N * (W + 1)) + 4
def aM (W : Int) : Int := (W - 8) * (W - 1)
def EG (a b : Int) : Int := (a + b - 1) / b
def PP (N W K : Int) : Int := 2 * EG (iK N W) K + 2 * (W - 7)
def Bp (N W K : Int) : Int := EG (2 * iK N W + ja N W) K + 2
theorem zI {a b A B : Int} (ha : 0 ≤ a) (hb : 0 ≤ b) (h1 : a ≤ A) (h2 : b ≤ B) : 0 ≤ a * b ∧ a * b ≤ A * B :=
 ⟨Int.mul_nonneg ha hb, Int.mul_le_mul h1 h2 hb (by omega)⟩
theorem Ht {N W R K : Int} (h : May N W R K) : 16 ≤ N * W ∧ N * W ≤ 4194304 := by
 have := Int.mul_le_mul h.n0 h.w0 (by omega) (by have := h.n0; omega)
 exact ⟨by omega, h.nw⟩
theorem KA (N W : Int) : ja N W = N * W + N := by unfold ja; rw [Int.mul_add]; omega
theorem Cq {N W R K : Int} (h : May N W R K) : 17 ≤ ja N W ∧ ja N W ≤ 5242880 := by
 have := Ht h
 have := h.n0; have := h.n1
 rw [KA]; omega
theorem KF (N W : Int) : iK N W = 3 * ja N W + 4 := rfl
theorem KE {N W R K : Int} (h : May N W R K) : 55 ≤ iK N W ∧ iK N W ≤ 15728644 := by
 have := Cq h
 rw [KF]; omega
theorem dK {W : Int} (h0 : 16 ≤ W) (h1 : W ≤ 256) : 120 ≤ aM W ∧ aM W ≤ 63240 := by
 have a := Int.mul_le_mul (show (8 : Int) ≤ W - 8 by omega) (show (15 : Int) ≤ W - 1 by omega) (by omega) (by omega)
 have b := Int.mul_le_mul (show W - 8 ≤ 248 by omega) (show W - 1 ≤ 255 by omega) (by omega) (by omega)
 unfold aM; omega
theorem Gm {a b : Int} (ha : 0 ≤ a) (hb : 1 ≤ b) : 0 ≤ EG a b ∧ EG a b ≤ a ∧ a ≤ b * EG a b ∧ b * EG a b < a + b := by
 unfold EG
 have h1 := Int.emod_add_mul_ediv (a + b - 1) b
 have h2 := Int.emod_nonneg (a + b - 1) (show b ≠ 0 by omega)
 have h3 := Int.emod_lt_of_pos (a + b - 1) (show 0 < b by omega)
 have h4 : 0 ≤ (a + b - 1) / b := Int.ediv_nonneg (by omega) (by omega)
 refine ⟨h4, ?_, by omega, by omega⟩
 by_cases h5 : a = 0
 · subst h5
   have : (0 + b - 1) / b = 0 := Int.ediv_eq_zero_of_lt (by omega) (by omega)
   omega
 · have h6 : (a + b - 1) / b < a + 1 := by
     apply Int.ediv_lt_of_lt_mul (by omega)
     have h7 : a * 1 ≤ a * b := Int.mul_le_mul_of_nonneg_left hb ha
     have : (a + 1) * b = a * b + b := by rw [Int.add_mul]; omega
     omega
   omega
def pw (n : Int) : Int := 2 ^ n.toNat
theorem pR (n : Int) : 0 < pw n := Int.pow_pos (by decide)
def dJ (at' n : Int) : Bool := decide (0 ≤ at' ∧ 1 ≤ n ∧ n ≤ 32 ∧ at' ≤ 32 - n)
theorem jO {a n : Int} (h : dJ a n = true) : 0 ≤ a ∧ 1 ≤ n ∧ n ≤ 32 ∧ a ≤ 32 - n := of_decide_eq_true h
theorem Jq {a n : Int} (h : dJ a n = false) : ¬ (0 ≤ a ∧ 1 ≤ n ∧ n ≤ 32 ∧ a ≤ 32 - n) := of_decide_eq_false h
def iL (w a n : Int) : Int := if dJ a n = true then w / pw a % pw n else 0
def uj (v n : Int) : Bool := decide (v < pw n)
def Dz (w a n v : Int) : Int := w - iL w a n * pw a + v * pw a
theorem Ph {m n : Int} (h : m ≤ n) : pw m ≤ pw n := by
 unfold pw
 have h1 : m.toNat ≤ n.toNat := by omega
 have := Nat.pow_le_pow_right (n := 2) (by decide) h1
 exact_mod_cast this
theorem Qp {m n : Int} (hm : 0 ≤ m) (hn : 0 ≤ n) : pw (m + n) = pw m * pw n := by
 unfold pw
 rw [Int.toNat_add hm hn, Int.pow_add]
theorem LY : pw 32 = 4294967296 := by decide
theorem RJ : pw 0 = 1 := by decide
theorem Qq {n : Int} (h : n ≤ 0) : pw n = 1 := by
 unfold pw
 have : n.toNat = 0 := by omega
 rw [this]; rfl
theorem Ib {n : Int} (h : n ≤ 32) : pw n ≤ 4294967296 := by rw [← LY]; exact Ph h
theorem Om {n : Int} (h : 32 ≤ n) : 4294967296 ≤ pw n := by rw [← LY]; exact Ph h
theorem NM {n : Int} (h1 : 1 ≤ n) (h2 : n ≤ 32) : (4294967295 : Int) / 2 ^ (32 - n).toNat = pw n - 1 := by
 have e : pw n * pw (32 - n) = 4294967296 := by
   rw [← Qp (by omega) (by omega), show n + (32 - n) = 32 by omega, LY]
 have hp := pR (32 - n)
 have hq := pR n
 show (4294967295 : Int) / pw (32 - n) = pw n - 1
 have e2 : (4294967295 : Int) = (pw (32 - n) - 1) + (pw n - 1) * pw (32 - n) := by
   rw [Int.sub_mul, e]; omega
 rw [e2, Int.add_mul_ediv_right _ _ (by omega), Int.ediv_eq_zero_of_lt (by omega) (by omega)]
 omega
theorem Nv {w a n : Int} (h0 : 0 ≤ w) : 0 ≤ iL w a n := by
 unfold iL; split
 · exact Int.emod_nonneg _ (by have := pR n; omega)
 · exact Int.le_refl _
theorem Nw {w a n : Int} : iL w a n < pw n := by
 unfold iL; split
 · exact Int.emod_lt_of_pos _ (pR n)
 · exact pR n
theorem Nu {w a n : Int} (h0 : 0 ≤ w) (h1 : w ≤ 4294967295) : iL w a n ≤ 4294967295 := by
 by_cases hp : dJ a n = true
 · have h := jO hp
   have := Nw (w := w) (a := a) (n := n)
   have := Ib h.2.2.1
   omega
 · have : iL w a n = 0 := by unfold iL; rw [if_neg hp]
   omega
theorem Ny {w a n : Int} (h0 : 0 ≤ w) (h1 : w ≤ 4294967295) (hp : dJ a n = true) :
   bits .and .u32 (w / 2 ^ a.toNat) (pw n - 1) = iL w a n := by
 obtain ⟨ha, hn1, hn2, hd⟩ := jO hp
 have hle : w / pw a ≤ w := Int.ediv_le_self _ h0
 have hge : 0 ≤ w / pw a := Int.ediv_nonneg h0 (Int.le_of_lt (pR a))
 have hm := Ib hn2
 have hp0 := pR n
 show bits .and .u32 (w / pw a) (pw n - 1) = _
 rw [u32_and _ _ hge (by omega) (by omega) (by omega)]
 unfold iL
 rw [if_pos hp]
 obtain ⟨X, hX⟩ := Int.eq_ofNat_of_zero_le hge
 rw [hX]
 have e : (pw n - 1).toNat = 2 ^ n.toNat - 1 := by
   unfold pw
   have : ((2 : Int) ^ n.toNat) = ((2 ^ n.toNat : Nat) : Int) := by simp
   rw [this]; omega
 rw [e, Int.toNat_natCast, Nat.and_two_pow_sub_one_eq_mod]
 unfold pw
 simp
theorem FY (w a n : Nat) : w = (w / 2 ^ (a + n)) * 2 ^ (a + n) + (w / 2 ^ a % 2 ^ n) * 2 ^ a + w % 2 ^ a := by
 have h1 := Nat.div_add_mod w (2 ^ a)
 have h2 := Nat.div_add_mod (w / 2 ^ a) (2 ^ n)
 rw [Nat.div_div_eq_div_mul, ← Nat.pow_add] at h2
 have h3 : 2 ^ a * (2 ^ n * (w / 2 ^ (a + n))) = w / 2 ^ (a + n) * 2 ^ (a + n) := by
   rw [Nat.pow_add, ← Nat.mul_assoc, Nat.mul_comm]
 have h4 : 2 ^ a * (w / 2 ^ a) = 2 ^ a * (2 ^ n * (w / 2 ^ (a + n))) + 2 ^ a * (w / 2 ^ a % 2 ^ n) := by
   rw [← Nat.mul_add, h2]
 have h5 : 2 ^ a * (w / 2 ^ a % 2 ^ n) = w / 2 ^ a % 2 ^ n * 2 ^ a := Nat.mul_comm _ _
 omega
theorem vV (w a n v : Nat) (hv : v < 2 ^ n) (hw : w < 2 ^ 32) (hn : a + n ≤ 32) :
   (w &&& (4294967295 - (2 ^ n - 1) * 2 ^ a)) ||| v * 2 ^ a = (w / 2 ^ (a + n)) * 2 ^ (a + n) + v * 2 ^ a + w % 2 ^ a := by
 have hmul : (2 ^ n - 1) * 2 ^ a < 2 ^ 32 := by
   have h1 : (2 ^ n - 1) * 2 ^ a < 2 ^ n * 2 ^ a := Nat.mul_lt_mul_of_pos_right (by have := Nat.two_pow_pos n; omega) (Nat.two_pow_pos a)
   rw [← Nat.pow_add] at h1
   exact Nat.lt_of_lt_of_le h1 (Nat.pow_le_pow_right (by decide) (by omega))
 have hlow : v * 2 ^ a + w % 2 ^ a < 2 ^ (a + n) := by
   have h1 : (v + 1) * 2 ^ a ≤ 2 ^ n * 2 ^ a := Nat.mul_le_mul_right _ hv
   rw [Nat.add_mul, Nat.one_mul] at h1
   have h2 := Nat.mod_lt w (Nat.two_pow_pos a)
   rw [Nat.pow_add, Nat.mul_comm (2 ^ a)]
   omega
 apply Nat.eq_of_testBit_eq
 intro j
 have e1 : (4294967295 - (2 ^ n - 1) * 2 ^ a) = 2 ^ 32 - ((2 ^ n - 1) * 2 ^ a + 1) := by omega
 rw [Nat.testBit_or, Nat.testBit_and, e1, Nat.testBit_two_pow_sub_succ hmul]
 rw [Nat.add_assoc, Nat.mul_comm (w / 2 ^ (a + n)), Nat.testBit_two_pow_mul_add _ hlow, Nat.mul_comm v, Nat.testBit_two_pow_mul_add _ (Nat.mod_lt w (Nat.two_pow_pos a))]
 rw [Nat.mul_comm (2 ^ n - 1), Nat.testBit_two_pow_mul, Nat.testBit_two_pow_mul, Nat.testBit_two_pow_sub_one, Nat.testBit_mod_two_pow, Nat.testBit_div_two_pow]
 by_cases hj : j < a
 · have h1 : ¬ a ≤ j := by omega
   have h2 : j < a + n := by omega
   have h3 : j < 32 := by omega
   simp [hj, h1, h2, h3]
 · by_cases hj2 : j < a + n
   · have h1 : a ≤ j := by omega
     have h2 : j - a < n := by omega
     simp [hj, hj2, h1, h2]
   · have h1 : a ≤ j := by omega
     have h2 : ¬ j - a < n := by omega
     have h3 : v.testBit (j - a) = false := by
       apply Nat.testBit_lt_two_pow
       exact Nat.lt_of_lt_of_le hv (Nat.pow_le_pow_right (by decide) (by omega))
     have h4 : a + n + (j - (a + n)) = j := by omega
     have h6 : j - (a + n) + (a + n) = j := by omega
     by_cases h5 : j < 32
     · simp [hj, hj2, h1, h2, h3, h4, h5, h6]
     · have hwj : w.testBit j = false := by
         apply Nat.testBit_lt_two_pow
         exact Nat.lt_of_lt_of_le hw (Nat.pow_le_pow_right (by decide) (by omega))
       simp [hj, hj2, h1, h2, h3, h4, h5, h6, hwj]
theorem Qj {w a n v : Int} (h0 : 0 ≤ w) (h1 : w ≤ 4294967295) (hv0 : 0 ≤ v) (hp : dJ a n = true) (hf : uj v n = true) :
   bits .or .u32 (bits .andNot .u32 w (IntKind.u32.wrap ((pw n - 1) * 2 ^ a.toNat))) (IntKind.u32.wrap (v * 2 ^ a.toNat)) = Dz w a n v := by
 obtain ⟨ha, hn1, hn2, hd⟩ := jO hp
 have hv : v < pw n := of_decide_eq_true hf
 obtain ⟨A, rfl⟩ := Int.eq_ofNat_of_zero_le ha
 obtain ⟨N, rfl⟩ := Int.eq_ofNat_of_zero_le (by omega : 0 ≤ n)
 obtain ⟨W, rfl⟩ := Int.eq_ofNat_of_zero_le h0
 obtain ⟨V, rfl⟩ := Int.eq_ofNat_of_zero_le hv0
 have eN : pw (N : Int) = ((2 ^ N : Nat) : Int) := by unfold pw; simp
 have eA : pw (A : Int) = ((2 ^ A : Nat) : Int) := by unfold pw; simp
 have eA2 : (2 : Int) ^ (A : Int).toNat = ((2 ^ A : Nat) : Int) := by simp
 have hV : V < 2 ^ N := by rw [eN] at hv; exact_mod_cast hv
 have hs : A + N ≤ 32 := by omega
 have hW : W < 2 ^ 32 := by omega
 have hpos := Nat.two_pow_pos N
 have eM : (pw (N : Int) - 1) * 2 ^ (A : Int).toNat = (((2 ^ N - 1) * 2 ^ A : Nat) : Int) := by
   rw [eN, eA2, Int.natCast_mul, Int.natCast_sub hpos]; simp
 have eV : (V : Int) * 2 ^ (A : Int).toNat = ((V * 2 ^ A : Nat) : Int) := by rw [eA2, Int.natCast_mul]
 have bM : (2 ^ N - 1) * 2 ^ A < 2 ^ 32 := by
   have h1 : (2 ^ N - 1) * 2 ^ A < 2 ^ N * 2 ^ A := Nat.mul_lt_mul_of_pos_right (by omega) (Nat.two_pow_pos A)
   rw [← Nat.pow_add] at h1
   exact Nat.lt_of_lt_of_le h1 (Nat.pow_le_pow_right (by decide) (by omega))
 have bV : V * 2 ^ A < 2 ^ 32 := by
   have h1 : V * 2 ^ A < 2 ^ N * 2 ^ A := Nat.mul_lt_mul_of_pos_right hV (Nat.two_pow_pos A)
   rw [← Nat.pow_add] at h1
   exact Nat.lt_of_lt_of_le h1 (Nat.pow_le_pow_right (by decide) (by omega))
 rw [eM, eV, IntKind.wrap_u32, IntKind.wrap_u32]
 rw [show ((((2 ^ N - 1) * 2 ^ A : Nat) : Int)) % 4294967296 = (((2 ^ N - 1) * 2 ^ A : Nat) : Int) from by omega]
 rw [show ((V * 2 ^ A : Nat) : Int) % 4294967296 = ((V * 2 ^ A : Nat) : Int) from by omega]
 rw [u32_andNot _ _ (by omega) (by omega) (by omega) (by omega)]
 have hle : W &&& (4294967295 - (2 ^ N - 1) * 2 ^ A) ≤ W := Nat.and_le_left
 rw [Int.toNat_natCast, Int.toNat_natCast, u32_or _ _ (by omega) (by omega) (by omega) (by omega), Int.toNat_natCast, Int.toNat_natCast, vV W A N V hV hW hs]
 unfold Dz iL
 rw [if_pos hp, eN, eA]
 have hsw := FY W A N
 have e1 : ((W : Int) / ((2 ^ A : Nat) : Int) % ((2 ^ N : Nat) : Int)) = ((W / 2 ^ A % 2 ^ N : Nat) : Int) := by simp
 rw [e1, ← Int.natCast_mul, ← Int.natCast_mul]
 omega
theorem KH {v n : Int} (h0 : 0 ≤ v) (h1 : v ≤ 4294967295) (hn : 0 ≤ n) : (v / 2 ^ min n.toNat 32 == 0) = uj v n := by
 unfold uj
 rw [Bool.eq_iff_iff, beq_iff_eq, decide_eq_true_iff]
 by_cases h : n ≤ 32
 · have e : min n.toNat 32 = n.toNat := by omega
   rw [e]
   show v / pw n = 0 ↔ v < pw n
   constructor
   · intro hz
     have h2 := Int.lt_ediv_add_one_mul_self v (pR n)
     rw [hz] at h2
     omega
   · intro hlt; exact Int.ediv_eq_zero_of_lt h0 hlt
 · have e : min n.toNat 32 = 32 := by omega
   rw [e]
   have hz : v / 2 ^ 32 = 0 := Int.ediv_eq_zero_of_lt h0 (by omega)
   have := Om (n := n) (by omega)
   constructor
   · intro _; omega
   · intro _; exact hz
theorem KG {v n : Int} (h0 : 0 ≤ v) (hn : n ≤ 0) : (v == 0) = uj v n := by
 unfold uj
 rw [Qq hn, Bool.eq_iff_iff, beq_iff_eq, decide_eq_true_iff]
 omega
set_option maxHeartbeats 400000 in
theorem pI (n : Int) (w : World) (h1 : 1 ≤ n) (h2 : n ≤ 32) :
   Calls Tryz.prog 236 #[.int .i64 n] w fun e w' => e = .returned (.bool true) ∧ w = w' := by
 go_enter Tryz.func236, Tryz.ntmps236
 go_wp2
 go_ret
 exact ⟨rfl, rfl⟩
set_option maxHeartbeats 400000 in
theorem Fh (n : Int) (w : World) (h : ¬ (1 ≤ n ∧ n ≤ 32)) :
   Calls Tryz.prog 236 #[.int .i64 n] w fun e w' => e = .returned (.bool false) ∧ w = w' := by
 by_cases h1 : 1 ≤ n
 · have h2 : ¬ n ≤ 32 := fun h2 => h ⟨h1, h2⟩
   clear h
   go_enter Tryz.func236, Tryz.ntmps236
   go_wp2
   go_ret
   exact ⟨rfl, rfl⟩
 · clear h
   go_enter Tryz.func236, Tryz.ntmps236
   go_wp2
   go_ret
   exact ⟨rfl, rfl⟩
set_option maxHeartbeats 400000 in
theorem pG (a n : Int) (w : World) (hp : dJ a n = true) :
   Calls Tryz.prog 225 #[.int .i64 a, .int .i64 n] w fun e w' => e = .returned (.bool true) ∧ w = w' := by
 obtain ⟨h0, h1, h2, h3⟩ := jO hp
 clear hp
 go_enter Tryz.func225, Tryz.ntmps225
 go_wp2_with (go_at_call 236; refine (pI _ _ (by omega) (by omega)).mono ?_; rintro e w' ⟨rfl, rfl⟩)
 go_ret
 exact ⟨rfl, rfl⟩
set_option maxHeartbeats 400000 in
theorem wN (a n : Int) (w : World) (hp : dJ a n = false) :
   Calls Tryz.prog 225 #[.int .i64 a, .int .i64 n] w fun e w' => e = .returned (.bool false) ∧ w = w' := by
 have h := Jq hp
 clear hp
 by_cases hw : 1 ≤ n ∧ n ≤ 32
 · obtain ⟨h1, h2⟩ := hw
   by_cases h0 : 0 ≤ a
   · have h3 : ¬ a ≤ 32 - n := fun h3 => h ⟨h0, h1, h2, h3⟩
     clear h
     go_enter Tryz.func225, Tryz.ntmps225
     go_wp2_with (go_at_call 236; refine (pI _ _ (by omega) (by omega)).mono ?_; rintro e w' ⟨rfl, rfl⟩)
     go_ret
     exact ⟨aK (decide_eq_false (by omega)), rfl⟩
   · clear h
     go_enter Tryz.func225, Tryz.ntmps225
     go_wp2_with (go_at_call 236; refine (pI _ _ (by omega) (by omega)).mono ?_; rintro e w' ⟨rfl, rfl⟩)
     go_ret
     exact ⟨rfl, rfl⟩
 · clear h
   have hW : Hid (¬ (1 ≤ n ∧ n ≤ 32)) := hw
   clear hw
   go_enter Tryz.func225, Tryz.ntmps225
   go_wp2_with (go_at_call 236; refine (Fh _ _ hW.out).mono ?_; rintro e w' ⟨rfl, rfl⟩)
   go_ret
   exact ⟨rfl, rfl⟩
set_option maxHeartbeats 400000 in
theorem uY (n : Int) (w : World) (h1 : 1 ≤ n) (h2 : n ≤ 32) :
   Calls Tryz.prog 226 #[.int .i64 n] w fun e w' => e = .returned (.int .u32 (pw n - 1)) ∧ w = w' := by
 go_enter Tryz.func226, Tryz.ntmps226
 go_wp2
 go_ret
 exact ⟨bG (NM h1 h2), rfl⟩
set_option maxHeartbeats 400000 in
theorem Cw (v n : Int) (w : World) (h0 : 0 ≤ v) (h1 : v ≤ 4294967295) :
   Calls Tryz.prog 232 #[.int .u32 v, .int .i64 n] w fun e w' => e = .returned (.bool (uj v n)) ∧ w = w' := by
 by_cases hn : 0 ≤ n
 · go_enter Tryz.func232, Tryz.ntmps232
   go_wp2
   go_ret
   exact ⟨aK (KH h0 h1 hn), rfl⟩
 · go_enter Tryz.func232, Tryz.ntmps232
   go_wp2
   go_ret
   exact ⟨aK (KG h0 (by omega)), rfl⟩
set_option maxHeartbeats 400000 in
theorem NA (x a n : Int) (w : World) (h0 : 0 ≤ x) (h1 : x ≤ 4294967295) (hp : dJ a n = true) :
   Calls Tryz.prog 198 #[.int .u32 x, .int .i64 a, .int .i64 n] w fun e w' => e = .returned (.int .u32 (iL x a n)) ∧ ∃ k, w' = w.drewN k := by
 obtain ⟨g0, g1, g2, g3⟩ := jO hp
 have HG : Hid (bits .and .u32 (x / 2 ^ a.toNat) (pw n - 1) = iL x a n) := Ny h0 h1 hp
 have HP : Hid (dJ a n = true) := hp
 clear hp
 go_enter Tryz.func198, Tryz.ntmps198
 go_wp2_with (go_at_call 225; refine (pG _ _ _ HP.out).mono ?_; rintro e w' ⟨rfl, rfl⟩)
 go_quiet ((go_at_call 226; exact DF (uY _ _ g1 g2)))
 go_wp2
 go_ret
 exact ⟨bG HG.out, _, rfl⟩
set_option maxHeartbeats 400000 in
theorem Py (x a n : Int) (w : World) (hp : dJ a n = false) :
   Calls Tryz.prog 198 #[.int .u32 x, .int .i64 a, .int .i64 n] w fun e w' => e = .returned (.int .u32 0) ∧ w = w' := by
 have HP : Hid (dJ a n = false) := hp
 clear hp
 go_enter Tryz.func198, Tryz.ntmps198
 go_wp2_with (go_at_call 225; refine (wN _ _ _ HP.out).mono ?_; rintro e w' ⟨rfl, rfl⟩)
 go_ret
 exact ⟨rfl, rfl⟩
theorem Oq {a b c : Int} (h : a = b) : Ending.returned (.tuple #[.int .u32 a, .int .i64 c]) = .returned (.tuple #[.int .u32 b, .int .i64 c]) := by rw [h]
set_option maxHeartbeats 400000 in
theorem Qi (x a n v : Int) (w : World) (hp : dJ a n = false) :
   Calls Tryz.prog 208 #[.int .u32 x, .int .i64 a, .int .i64 n, .int .u32 v] w fun e w' => e = .returned (.tuple #[.int .u32 0, .int .i64 2]) ∧ w = w' := by
 have HP : Hid (dJ a n = false) := hp
 clear hp
 go_enter Tryz.func208, Tryz.ntmps208
 go_wp2_with (go_at_call 225; refine (wN _ _ _ HP.out).mono ?_; rintro e w' ⟨rfl, rfl⟩)
 go_ret2
 exact ⟨rfl, rfl⟩
set_option maxHeartbeats 400000 in
theorem Oj (x a n v : Int) (w : World) (hp : dJ a n = true) (hv0 : 0 ≤ v) (hv1 : v ≤ 4294967295) (hf : uj v n = false) :
   Calls Tryz.prog 208 #[.int .u32 x, .int .i64 a, .int .i64 n, .int .u32 v] w fun e w' => e = .returned (.tuple #[.int .u32 0, .int .i64 15]) ∧ w = w' := by
 have HP : Hid (dJ a n = true) := hp
 clear hp
 go_enter Tryz.func208, Tryz.ntmps208
 go_wp2_with (first | (go_at_call 225; refine (pG _ _ _ HP.out).mono ?_; rintro e w' ⟨rfl, rfl⟩) | (go_at_call 232; refine (Cw _ _ _ hv0 hv1).mono ?_; rintro e w' ⟨rfl, rfl⟩))
 go_ret2
 exact ⟨rfl, rfl⟩
set_option maxHeartbeats 400000 in
theorem Ol (x a n v : Int) (w : World) (h0 : 0 ≤ x) (h1 : x ≤ 4294967295) (hp : dJ a n = true) (hv0 : 0 ≤ v) (hv1 : v ≤ 4294967295) (hf : uj v n = true) :
   Calls Tryz.prog 208 #[.int .u32 x, .int .i64 a, .int .i64 n, .int .u32 v] w fun e w' => e = .returned (.tuple #[.int .u32 (Dz x a n v), .int .i64 0]) ∧ ∃ k, w' = w.drewN k := by
 obtain ⟨g0, g1, g2, g3⟩ := jO hp
 have HG : Hid (bits .or .u32 (bits .andNot .u32 x (IntKind.u32.wrap ((pw n - 1) * 2 ^ a.toNat))) (IntKind.u32.wrap (v * 2 ^ a.toNat)) = Dz x a n v) := Qj h0 h1 hv0 hp hf
 have HP : Hid (dJ a n = true) := hp
 clear hp
 go_enter Tryz.func208, Tryz.ntmps208
 go_wp2_with (first | (go_at_call 225; refine (pG _ _ _ HP.out).mono ?_; rintro e w' ⟨rfl, rfl⟩) | (go_at_call 232; refine (Cw _ _ _ hv0 hv1).mono ?_; rintro e w' ⟨rfl, rfl⟩))
 go_quiet ((go_at_call 226; exact DF (uY _ _ g1 g2)))
 go_wp2
 go_ret2
 exact ⟨Oq HG.out, _, rfl⟩
def sW (x a n v : Int) : Int := if dJ a n = true then (if uj v n = true then Dz x a n v else 0) else 0
def LK (a n v : Int) : Int := if dJ a n = true then (if uj v n = true then 0 else 15) else 2
theorem DD {x a n v : Int} (h1 : dJ a n = true) (h2 : uj v n = true) : sW x a n v = Dz x a n v := by unfold sW; rw [if_pos h1, if_pos h2]
theorem LM {a n v : Int} (h1 : dJ a n = true) (h2 : uj v n = true) : LK a n v = 0 := by unfold LK; rw [if_pos h1, if_pos h2]
theorem xy {a b c d : Int} (h : a = b) (h2 : c = d) : Ending.returned (.tuple #[.int .u32 a, .int .i64 c]) = .returned (.tuple #[.int .u32 b, .int .i64 d]) := by rw [h, h2]
theorem Nz (x a n : Int) (w : World) (h0 : 0 ≤ x) (h1 : x ≤ 4294967295) :
   Calls Tryz.prog 198 #[.int .u32 x, .int .i64 a, .int .i64 n] w fun e w' => e = .returned (.int .u32 (iL x a n)) ∧ fe w w' := by
 cases hp : dJ a n
 · refine (Py x a n w hp).mono fun e w' ⟨he, hw⟩ => ⟨?_, hw ▸ fe.refl w⟩
   rw [he]; exact bG (by unfold iL; rw [hp]; rfl)
 · exact NA x a n w h0 h1 hp
theorem Oi (x a n v : Int) (w : World) (h0 : 0 ≤ x) (h1 : x ≤ 4294967295) (hv0 : 0 ≤ v) (hv1 : v ≤ 4294967295) :
   Calls Tryz.prog 208 #[.int .u32 x, .int .i64 a, .int .i64 n, .int .u32 v] w fun e w' => e = .returned (.tuple #[.int .u32 (sW x a n v), .int .i64 (LK a n v)]) ∧ fe w w' := by
 cases hp : dJ a n
 · refine (Qi x a n v w hp).mono fun e w' ⟨he, hw⟩ => ⟨?_, hw ▸ fe.refl w⟩
   rw [he]; exact xy (by unfold sW; rw [hp]; rfl) (by unfold LK; rw [hp]; rfl)
 · cases hf : uj v n
   · refine (Oj x a n v w hp hv0 hv1 hf).mono fun e w' ⟨he, hw⟩ => ⟨?_, hw ▸ fe.refl w⟩
     rw [he]; exact xy (by unfold sW; rw [hp, hf]; rfl) (by unfold LK; rw [hp, hf]; rfl)
   · refine (Ol x a n v w h0 h1 hp hv0 hv1 hf).mono fun e w' ⟨he, hw⟩ => ⟨?_, hw⟩
     rw [he]; exact xy (DD hp hf).symm (LM hp hf).symm
open Classical in
open Classical in
open Classical in
open Classical in
def jK (n b : Int) : Bool := decide (0 ≤ n ∧ n < b)
theorem GR {n b : Int} (h : jK n b = true) : 0 ≤ n ∧ n < b := of_decide_eq_true h
theorem PM {n b : Int} (h : 0 ≤ n ∧ n < b) : jK n b = true := decide_eq_true h
theorem GQ {n b : Int} (h : ¬ (0 ≤ n ∧ n < b)) : jK n b = false := decide_eq_false h
def uR (c n s d g : Int) : Bool := jK c 2 && jK n 2 && jK s 2 && jK d 2 && jK g 2
def rq (c n s d g : Int) : Bool := decide (c = 0 ∧ n = 0 ∧ s = 0 ∧ d = 0 ∧ g = 0)
def dN (k c n s d g o : Int) : Bool := jK k 4 && jK o 1048576 && (k == 3 || o == 0) && uR c n s d g && (!(k == 0 || k == 3) || rq c n s d g)
def dH (k c n s d g o : Int) : Prop :=
 (0 ≤ k ∧ k < 4) ∧ (0 ≤ o ∧ o < 1048576) ∧ (k = 3 ∨ o = 0) ∧ (0 ≤ c ∧ c < 2) ∧ (0 ≤ n ∧ n < 2) ∧ (0 ≤ s ∧ s < 2) ∧ (0 ≤ d ∧ d < 2) ∧ (0 ≤ g ∧ g < 2) ∧ ((k = 0 ∨ k = 3) → c = 0 ∧ n = 0 ∧ s = 0 ∧ d = 0 ∧ g = 0)
theorem jQ {k c n s d g o : Int} : dN k c n s d g o = true ↔ dH k c n s d g o := by
 unfold dN dH uR rq jK
 simp only [Bool.and_eq_true, Bool.or_eq_true, Bool.not_eq_true', Bool.or_eq_false_iff, decide_eq_true_eq, beq_iff_eq, beq_eq_false_iff_ne, ne_eq]
 omega
theorem xz {k c n s d g o : Int} (h : dN k c n s d g o = true) : dH k c n s d g o := jQ.1 h
theorem kW {k c n s d g o : Int} (h : dH k c n s d g o) : dN k c n s d g o = true := jQ.2 h
theorem Jw {k c n s d g o : Int} (h : ¬ dH k c n s d g o) : dN k c n s d g o = false := by
 cases h2 : dN k c n s d g o with
 | false => rfl
 | true => exact absurd (xz h2) h
theorem wy {a b : Bool} (h : a = true ↔ b = true) : a = b := by cases a <;> cases b <;> simp_all
theorem zJ {c n s d g : Int} : rq c n s d g = true ↔ c = 0 ∧ n = 0 ∧ s = 0 ∧ d = 0 ∧ g = 0 := by unfold rq; simp
theorem Iu {c n s d g : Int} : uR c n s d g = true ↔ (0 ≤ c ∧ c < 2) ∧ (0 ≤ n ∧ n < 2) ∧ (0 ≤ s ∧ s < 2) ∧ (0 ≤ d ∧ d < 2) ∧ (0 ≤ g ∧ g < 2) := by
 unfold uR jK; simp [and_assoc]
theorem RS {k c n s d g o : Int} (h : jK k 4 = false) : dN k c n s d g o = false := by unfold dN; rw [h]; rfl
theorem RU {k c n s d g o : Int} (h : jK o 1048576 = false) : dN k c n s d g o = false := by unfold dN; rw [h]; simp
theorem Qr {k c n s d g o : Int} (h : ¬ k = 3) (h2 : ¬ o = 0) : dN k c n s d g o = false := by
 refine Jw fun hr => ?_
 obtain ⟨_, _, h3, _⟩ := hr
 omega
theorem RQ {c n s d g o : Int} (h : jK o 1048576 = true) : dN 3 c n s d g o = rq c n s d g := by
 have := GR h
 refine wy ?_
 rw [jQ, zJ]; unfold dH
 omega
theorem RP {c n s d g : Int} : dN 0 c n s d g 0 = rq c n s d g := by
 refine wy ?_
 rw [jQ, zJ]; unfold dH
 omega
theorem RV {k c n s d g : Int} (h : jK k 4 = true) (h0 : ¬ k = 0) (h3 : ¬ k = 3) : dN k c n s d g 0 = uR c n s d g := by
 have := GR h
 refine wy ?_
 rw [jQ, Iu]; unfold dH
 omega
def dQ (k c n s d g o : Int) : Int := k + 4 * c + 8 * n + 16 * s + 32 * d + 64 * g + 256 * o
theorem LU {x a n v : Int} (h0 : 0 ≤ x) (hx : x < pw a) (hp : dJ a n = true) : Dz x a n v = x + v * pw a := by
 unfold Dz iL
 rw [if_pos hp, Int.ediv_eq_zero_of_lt h0 hx]
 simp
theorem lQ {x a n v : Int} (h0 : 0 ≤ x) (hx : x < pw a) (hp : dJ a n = true) (hf : v < pw n) : sW x a n v = x + v * pw a := by
 rw [DD hp (decide_eq_true hf), LU h0 hx hp]
theorem yE : pw 1 = 2 := by decide
theorem LX : pw 2 = 4 := by decide
theorem Qk : pw 3 = 8 := by decide
theorem Ql : pw 4 = 16 := by decide
theorem Qm : pw 5 = 32 := by decide
theorem Qn : pw 6 = 64 := by decide
theorem Qo : pw 8 = 256 := by decide
theorem Pg : pw 24 = 16777216 := by decide
def Qa (k : Int) : Int := sW 0 0 2 k
def Qb (k c : Int) : Int := sW (Qa k) 2 1 c
def Qc (k c n : Int) : Int := sW (Qb k c) 3 1 n
def Qd (k c n s : Int) : Int := sW (Qc k c n) 4 1 s
def Qe (k c n s d : Int) : Int := sW (Qd k c n s) 5 1 d
def Qf (k c n s d g : Int) : Int := sW (Qe k c n s d) 6 1 g
def Sq (k c n s d g o : Int) : Int := sW (Qf k c n s d g) 8 24 o
theorem Qg {k c n s d g o : Int} (h : dH k c n s d g o) :
   Sq k c n s d g o = dQ k c n s d g o ∧ (0 ≤ Qa k ∧ Qa k ≤ 4294967295) ∧ (0 ≤ Qb k c ∧ Qb k c ≤ 4294967295) ∧ (0 ≤ Qc k c n ∧ Qc k c n ≤ 4294967295) ∧ (0 ≤ Qd k c n s ∧ Qd k c n s ≤ 4294967295) ∧ (0 ≤ Qe k c n s d ∧ Qe k c n s d ≤ 4294967295) ∧ (0 ≤ Qf k c n s d g ∧ Qf k c n s d g ≤ 4294967295) := by
 obtain ⟨h1, h2, h3, h4, h5, h6, h7, h8, h9⟩ := h
 have e0 : Qa k = k := by
   unfold Qa; rw [lQ (by omega) (by decide) (by decide) (by rw [LX]; omega), RJ]; omega
 have e1 : Qb k c = k + 4 * c := by
   unfold Qb; rw [e0, lQ (by omega) (by rw [LX]; omega) (by decide) (by rw [yE]; omega), LX]; omega
 have e2 : Qc k c n = k + 4 * c + 8 * n := by
   unfold Qc; rw [e1, lQ (by omega) (by rw [Qk]; omega) (by decide) (by rw [yE]; omega), Qk]; omega
 have e3 : Qd k c n s = k + 4 * c + 8 * n + 16 * s := by
   unfold Qd; rw [e2, lQ (by omega) (by rw [Ql]; omega) (by decide) (by rw [yE]; omega), Ql]; omega
 have e4 : Qe k c n s d = k + 4 * c + 8 * n + 16 * s + 32 * d := by
   unfold Qe; rw [e3, lQ (by omega) (by rw [Qm]; omega) (by decide) (by rw [yE]; omega), Qm]; omega
 have e5 : Qf k c n s d g = k + 4 * c + 8 * n + 16 * s + 32 * d + 64 * g := by
   unfold Qf; rw [e4, lQ (by omega) (by rw [Qn]; omega) (by decide) (by rw [yE]; omega), Qn]; omega
 have e6 : Sq k c n s d g o = k + 4 * c + 8 * n + 16 * s + 32 * d + 64 * g + 256 * o := by
   unfold Sq; rw [e5, lQ (by omega) (by rw [Qo]; omega) (by decide) (by rw [Pg]; omega), Qo]; omega
 unfold dQ
 omega
def uK (x : Int) : Int := x % 4
def uC (x : Int) : Int := x / 4 % 2
def uN (x : Int) : Int := x / 8 % 2
def uS (x : Int) : Int := x / 16 % 2
def uD (x : Int) : Int := x / 32 % 2
def uG (x : Int) : Int := x / 64 % 2
def uO (x : Int) : Int := x / 256
theorem PG (x : Int) : iL x 0 2 = uK x := by
 unfold iL uK; rw [if_pos (by decide), RJ, LX, Int.ediv_one]
theorem Pz (x : Int) : iL x 2 1 = uC x := by unfold iL uC; rw [if_pos (by decide), yE, LX]
theorem PH (x : Int) : iL x 3 1 = uN x := by unfold iL uN; rw [if_pos (by decide), yE, Qk]
theorem PK (x : Int) : iL x 4 1 = uS x := by unfold iL uS; rw [if_pos (by decide), yE, Ql]
theorem PD (x : Int) : iL x 5 1 = uD x := by unfold iL uD; rw [if_pos (by decide), yE, Qm]
theorem PE (x : Int) : iL x 6 1 = uG x := by unfold iL uG; rw [if_pos (by decide), yE, Qn]
theorem PI {x : Int} (h0 : 0 ≤ x) (h1 : x ≤ 4294967295) : iL x 8 24 = uO x := by
 unfold iL uO; rw [if_pos (by decide), Qo, Pg]; omega
theorem unpack_pack {k c n s d g o : Int} (h : dH k c n s d g o) :
   uK (dQ k c n s d g o) = k ∧ uC (dQ k c n s d g o) = c ∧ uN (dQ k c n s d g o) = n ∧ uS (dQ k c n s d g o) = s ∧ uD (dQ k c n s d g o) = d ∧ uG (dQ k c n s d g o) = g ∧ uO (dQ k c n s d g o) = o := by
 obtain ⟨h1, h2, h3, h4, h5, h6, h7, h8, h9⟩ := h
 unfold dQ uK uC uN uS uD uG uO
 omega
theorem Dp (x : Int) : dQ (uK x) (uC x) (uN x) (uS x) (uD x) (uG x) (uO x) = x - 128 * (x / 128 % 2) := by
 unfold dQ uK uC uN uS uD uG uO
 omega
def vO (W : Int) : Bool := decide (16 ≤ W ∧ W ≤ 256)
theorem nC {W : Int} (h : vO W = true) : 16 ≤ W ∧ W ≤ 256 := of_decide_eq_true h
theorem tQ {W : Int} (h0 : 16 ≤ W) (h1 : W ≤ 256) : vO W = true := decide_eq_true ⟨h0, h1⟩
theorem tT {W : Int} (h : ¬ (16 ≤ W ∧ W ≤ 256)) : vO W = false := decide_eq_false h
def bu (W n : Int) : Int := if n ≤ W - 8 then 0 else EG n (W - 1)
def uJ (l : Int) : Int := if l = -1 then 8 else 1
def tZ (W l : Int) : Int := lX [l, W - 1]
def bR (W n : Int) : Int := if vO W = true then (if n < 0 ∨ aM W < n then 3 else 0) else 1
def bA (W p d : Int) : Int := if vO W = true then (if p < 0 ∨ d < 0 ∨ aM W < p + d then 3 else 0) else 1
def aX (W p d : Int) : Int := if bA W p d = 0 then 1 + bu W (p + d) else 0
def bX (W n i : Int) : Int := if bR W n = 0 then (if i < 0 ∨ n ≤ i then 7 else 0) else bR W n
def il (W n i : Int) : Int := if bX W n i = 0 then (if n ≤ W - 8 then -1 else i / (W - 1)) else 0
def fT (W n i : Int) : Int := if bX W n i = 0 then (if n ≤ W - 8 then 8 + i else 1 + i % (W - 1)) else 0
theorem qN {W n : Int} (h : bR W n = 0) : 16 ≤ W ∧ W ≤ 256 ∧ 0 ≤ n ∧ n ≤ aM W := by
 unfold bR at h
 split at h
 · rename_i hw
   have := nC hw
   split at h
   · cases h
   · omega
 · cases h
theorem zY {W n : Int} (h0 : 16 ≤ W) (h1 : W ≤ 256) (h2 : 0 ≤ n) (h3 : n ≤ aM W) : bR W n = 0 := by
 unfold bR; rw [if_pos (tQ h0 h1), if_neg (by omega)]
theorem tJ {W p d : Int} (h : bA W p d = 0) : 16 ≤ W ∧ W ≤ 256 ∧ 0 ≤ p ∧ 0 ≤ d ∧ p + d ≤ aM W := by
 unfold bA at h
 split at h
 · rename_i hw
   have := nC hw
   split at h
   · cases h
   · omega
 · cases h
theorem qF {W n i : Int} (h : bX W n i = 0) : bR W n = 0 ∧ 0 ≤ i ∧ i < n := by
 unfold bX at h
 split at h
 · split at h
   · cases h
   · exact ⟨by assumption, by omega, by omega⟩
 · exact absurd h (by assumption)
theorem qE {W n i : Int} (h : bR W n = 0) (h0 : 0 ≤ i) (h1 : i < n) : bX W n i = 0 := by
 unfold bX; rw [if_pos h, if_neg (by omega)]
theorem jL {W n : Int} (h0 : 16 ≤ W) (h1 : W ≤ 256) (h2 : W - 8 < n) (h3 : n ≤ aM W) :
   1 ≤ bu W n ∧ bu W n ≤ W - 8 ∧ n ≤ bu W n * (W - 1) ∧ bu W n * (W - 1) < n + W - 1 := by
 have e : bu W n = EG n (W - 1) := by unfold bu; rw [if_neg (by omega)]
 have u := Gm (a := n) (b := W - 1) (by omega) (by omega)
 rw [e]
 rw [Int.mul_comm (W - 1)] at u
 refine ⟨?_, ?_, u.2.2.1, by omega⟩
 · by_cases h : 1 ≤ EG n (W - 1)
   · exact h
   · have : EG n (W - 1) = 0 := by omega
     rw [this, Int.zero_mul] at u
     omega
 · by_cases h : EG n (W - 1) ≤ W - 8
   · exact h
   · have h4 : (W - 8 + 1) * (W - 1) ≤ EG n (W - 1) * (W - 1) := Int.mul_le_mul_of_nonneg_right (by omega) (by omega)
     rw [Int.add_mul] at h4
     have : (W - 8) * (W - 1) = aM W := rfl
     omega
theorem gU {W n : Int} (h : n ≤ W - 8) : bu W n = 0 := by unfold bu; rw [if_pos h]
theorem kT {W n : Int} (h0 : 16 ≤ W) (h1 : W ≤ 256) (h3 : n ≤ aM W) : 0 ≤ bu W n ∧ bu W n ≤ W - 8 := by
 by_cases h : n ≤ W - 8
 · rw [gU h]; omega
 · have := jL h0 h1 (by omega) h3; omega
theorem GZ {m a b : Int} (hm : 1 ≤ m) (h : a < b) : a * m + m ≤ b * m := by
 have : (a + 1) * m ≤ b * m := Int.mul_le_mul_of_nonneg_right (by omega) (by omega)
 rw [Int.add_mul] at this
 omega
theorem NK {m a b : Int} (hm : 1 ≤ m) (h : a ≤ b) : a * m ≤ b * m := Int.mul_le_mul_of_nonneg_right h (by omega)
theorem Iq {W l : Int} (h0 : 16 ≤ W) (h1 : W ≤ 256) (h : l ≤ 0) : tZ W l = 0 := by
 unfold tZ
 rw [Df, Pt h, iJ (by omega) (by omega), nk (by omega) (by omega) (by omega) (by omega), Int.zero_mul]
 rfl
theorem Kl {W l : Int} (h0 : 16 ≤ W) (h1 : W ≤ 256) (h : 0 ≤ l) (h2 : l ≤ 256) : tZ W l = l * (W - 1) := by
 unfold tZ
 have := zI h (show 0 ≤ W - 1 by omega) h2 (show W - 1 ≤ 255 by omega)
 exact mh (by omega) (by omega) (by omega) (by omega) (by omega)
theorem Ia {m i : Int} (hm : 1 ≤ m) (hi : 0 ≤ i) : i = (i / m) * m + i % m ∧ 0 ≤ i % m ∧ i % m < m ∧ 0 ≤ i / m :=
 ⟨by have := Int.emod_add_mul_ediv i m; rw [Int.mul_comm] at this; omega, Int.emod_nonneg _ (by omega), Int.emod_lt_of_pos _ (by omega), Int.ediv_nonneg hi (by omega)⟩
theorem mq {W n i : Int} (h : bX W n i = 0) (hn : n ≤ W - 8) : il W n i = -1 ∧ fT W n i = 8 + i := by
 unfold il fT; rw [if_pos h, if_pos hn, if_pos h, if_pos hn]; exact ⟨rfl, rfl⟩
theorem qG {W n i : Int} (h : bX W n i = 0) (hn : W - 8 < n) : il W n i = i / (W - 1) ∧ fT W n i = 1 + i % (W - 1) := by
 unfold il fT; rw [if_pos h, if_neg (by omega), if_pos h, if_neg (by omega)]; exact ⟨rfl, rfl⟩
theorem mD {W n i : Int} (h : bX W n i ≠ 0) : il W n i = 0 ∧ fT W n i = 0 := by
 unfold il fT; rw [if_neg h, if_neg h]; exact ⟨rfl, rfl⟩
end Go.Proofs.YtbhhfnlkpieebaaGreat.Pk
