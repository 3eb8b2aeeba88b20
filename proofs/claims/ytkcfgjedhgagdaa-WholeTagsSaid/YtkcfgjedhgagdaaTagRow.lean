/-
  A slice of tags of a call's own: its cells; a ground's words that hold them.
-/
import Derived.Test.YtkcfgjedhgagdaaGround2
import Derived.Test.YtkcfgjedhgagdaaTagPk
import Derived.Laws.MakeOwn
import Derived.OwnWalk
namespace Go.Proofs.Ytkcfgjedhgagdaa.Pk
open Go.RowKit
set_option linter.unusedVariables false
set_option linter.unusedSimpArgs false

/-- A tag's seven numbers. -/
structure T7 where
  k : Int
  c : Int
  n : Int
  s : Int
  d : Int
  g : Int
  o : Int
def T7.zero : T7 := ⟨0, 0, 0, 0, 0, 0, 0⟩
def T7.at (t : T7) (j : Nat) : Value :=
  match j with
  | 0 => .int .i64 t.k
  | 1 => .int .i64 t.c
  | 2 => .int .i64 t.n
  | 3 => .int .i64 t.s
  | 4 => .int .i64 t.d
  | 5 => .int .i64 t.g
  | _ => .int .i64 t.o
def T7.cells (t : T7) : Array Value := #[.int .i64 t.k, .int .i64 t.c, .int .i64 t.n, .int .i64 t.s, .int .i64 t.d, .int .i64 t.g, .int .i64 t.o]
/-- The cells of so many tags. -/
def flat (n : Nat) (f : Nat → T7) : Array Value := Array.ofFn (n := n * 7) fun i => (f (i.val / 7)).at (i.val % 7)
/-- Another tag at one place. -/
def upd (f : Nat → T7) (j : Nat) (t : T7) : Nat → T7 := fun i => if i = j then t else f i
theorem upd_eq (f : Nat → T7) (j : Nat) (t : T7) : upd f j t j = t := if_pos rfl
theorem upd_ne (f : Nat → T7) {i j : Nat} (t : T7) (h : i ≠ j) : upd f j t i = f i := if_neg h
theorem flat_size (n : Nat) (f : Nat → T7) : (flat n f).size = n * 7 := by unfold flat; simp
theorem flat_at (n : Nat) (f : Nat → T7) (i : Nat) : (flat n f)[i]? = if i < n * 7 then some ((f (i / 7)).at (i % 7)) else none := by
  unfold flat
  rw [Array.getElem?_ofFn]
  by_cases h : i < n * 7
  · rw [dif_pos h, if_pos h]
  · rw [dif_neg h, if_neg h]
theorem flat_get {n : Nat} (f : Nat → T7) {b j : Nat} (hb : b < n) (hj : j < 7) : (flat n f)[b * 7 + j]? = some ((f b).at j) := by
  have h : b * 7 + j < n * 7 := by omega
  unfold flat
  rw [Array.getElem?_ofFn]
  rw [dif_pos h]
  have e1 : (b * 7 + j) / 7 = b := by omega
  have e2 : (b * 7 + j) % 7 = j := by omega
  simp [e1, e2]
theorem flat_upd {n : Nat} (f : Nat → T7) {b : Nat} (t : T7) (hb : b < n) :
    (((((((flat n f).setIfInBounds (b * 7) (t.at 0)).setIfInBounds (b * 7 + 1) (t.at 1)).setIfInBounds (b * 7 + 2) (t.at 2)).setIfInBounds (b * 7 + 3) (t.at 3)).setIfInBounds (b * 7 + 4) (t.at 4)).setIfInBounds (b * 7 + 5) (t.at 5)).setIfInBounds (b * 7 + 6) (t.at 6) = flat n (upd f b t) := by
  apply Array.ext_getElem?
  intro i
  simp only [Array.getElem?_setIfInBounds, Array.size_setIfInBounds, flat_size, flat_at]
  by_cases hi : i < n * 7
  · rw [if_pos hi]
    by_cases hq : i / 7 = b
    · rw [hq, upd_eq]
      have hr7 : i % 7 < 7 := Nat.mod_lt _ (by decide)
      have hr : i = b * 7 + i % 7 := by omega
      rw [if_pos hi]
      generalize hx : i % 7 = r at *
      have : r = 0 ∨ r = 1 ∨ r = 2 ∨ r = 3 ∨ r = 4 ∨ r = 5 ∨ r = 6 := by omega
      subst hr
      clear hx hq hi
      have h0 : b * 7 < n * 7 := by omega
      have h1 : b * 7 + 1 < n * 7 := by omega
      have h2 : b * 7 + 2 < n * 7 := by omega
      have h3 : b * 7 + 3 < n * 7 := by omega
      have h4 : b * 7 + 4 < n * 7 := by omega
      have h5 : b * 7 + 5 < n * 7 := by omega
      have h6 : b * 7 + 6 < n * 7 := by omega
      rcases this with rfl | rfl | rfl | rfl | rfl | rfl | rfl <;> simp [h0, h1, h2, h3, h4, h5, h6]
    · rw [upd_ne _ _ hq]
      rw [if_neg (by omega), if_neg (by omega), if_neg (by omega), if_neg (by omega), if_neg (by omega), if_neg (by omega), if_neg (by omega)]
      rw [if_pos hi]
  · rw [if_neg hi, if_neg (by omega), if_neg (by omega), if_neg (by omega), if_neg (by omega), if_neg (by omega), if_neg (by omega), if_neg (by omega), if_neg hi]

/-- A tag stored into a slice of tags: cell by cell. -/
def put7 (w : World) (b j : Nat) (t : T7) : World :=
  ((((((w.setCell ⟨b, j * 7, none⟩ (.int .i64 t.k)).setCell ⟨b, j * 7 + 1, none⟩ (.int .i64 t.c)).setCell ⟨b, j * 7 + 2, none⟩ (.int .i64 t.n)).setCell ⟨b, j * 7 + 3, none⟩ (.int .i64 t.s)).setCell ⟨b, j * 7 + 4, none⟩ (.int .i64 t.d)).setCell ⟨b, j * 7 + 5, none⟩ (.int .i64 t.g)).setCell ⟨b, j * 7 + 6, none⟩ (.int .i64 t.o)
theorem put7_touch (w : World) (b j : Nat) (t : T7) : Touch (fun q => q = b) w (put7 w b j t) := by
  unfold put7
  have h0 := Touch.refl (fun q => q = b) w
  have h1 := h0.setCell (p := ⟨b, j * 7, none⟩) (fun _ => rfl) (.int .i64 t.k)
  have h2 := h1.setCell (p := ⟨b, j * 7 + 1, none⟩) (fun _ => rfl) (.int .i64 t.c)
  have h3 := h2.setCell (p := ⟨b, j * 7 + 2, none⟩) (fun _ => rfl) (.int .i64 t.n)
  have h4 := h3.setCell (p := ⟨b, j * 7 + 3, none⟩) (fun _ => rfl) (.int .i64 t.s)
  have h5 := h4.setCell (p := ⟨b, j * 7 + 4, none⟩) (fun _ => rfl) (.int .i64 t.d)
  have h6 := h5.setCell (p := ⟨b, j * 7 + 5, none⟩) (fun _ => rfl) (.int .i64 t.g)
  exact h6.setCell (p := ⟨b, j * 7 + 6, none⟩) (fun _ => rfl) (.int .i64 t.o)
theorem put7_blk {w : World} {b n : Nat} {f : Nat → T7} {e : TypeId} (h : Blk w b (flat n f) e) {j : Nat} (hj : j < n) (t : T7) : Blk (put7 w b j t) b (flat n (upd f j t)) e := by
  unfold put7
  have h1 := h.set (j * 7) (.int .i64 t.k)
  have h2 := h1.set (j * 7 + 1) (.int .i64 t.c)
  have h3 := h2.set (j * 7 + 2) (.int .i64 t.n)
  have h4 := h3.set (j * 7 + 3) (.int .i64 t.s)
  have h5 := h4.set (j * 7 + 4) (.int .i64 t.d)
  have h6 := h5.set (j * 7 + 5) (.int .i64 t.g)
  have h7 := h6.set (j * 7 + 6) (.int .i64 t.o)
  exact (flat_upd f t hj) ▸ h7

theorem infoTag : (Try.prog.info? 49).map (fun i => (i.zero, i.size, i.bytes)) = some (some (.agg #[.int .i64 0, .int .i64 0, .int .i64 0, .int .i64 0, .int .i64 0, .int .i64 0, .int .i64 0]), 7, 56) := by kernel_rfl
theorem made_tags (n : Nat) : madeCells (Value.agg #[.int .i64 0, .int .i64 0, .int .i64 0, .int .i64 0, .int .i64 0, .int .i64 0, .int .i64 0]).cells (n * 7) = flat n (fun _ => T7.zero) := by
  have e : ∀ x : Nat, (Value.agg #[.int .i64 0, .int .i64 0, .int .i64 0, .int .i64 0, .int .i64 0, .int .i64 0, .int .i64 0]).cells[x % (Value.agg #[.int .i64 0, .int .i64 0, .int .i64 0, .int .i64 0, .int .i64 0, .int .i64 0, .int .i64 0]).cells.size]! = T7.zero.at (x % 7) := by
    intro x
    rw [show (Value.agg #[.int .i64 0, .int .i64 0, .int .i64 0, .int .i64 0, .int .i64 0, .int .i64 0, .int .i64 0]).cells = #[.int .i64 0, .int .i64 0, .int .i64 0, .int .i64 0, .int .i64 0, .int .i64 0, .int .i64 0] from rfl]
    show _ = T7.zero.at (x % 7)
    have hr7 : x % 7 < 7 := Nat.mod_lt _ (by decide)
    have hs : (#[.int .i64 0, .int .i64 0, .int .i64 0, .int .i64 0, .int .i64 0, .int .i64 0, .int .i64 0] : Array Value).size = 7 := rfl
    rw [hs]
    generalize x % 7 = r at *
    have : r = 0 ∨ r = 1 ∨ r = 2 ∨ r = 3 ∨ r = 4 ∨ r = 5 ∨ r = 6 := by omega
    rcases this with rfl | rfl | rfl | rfl | rfl | rfl | rfl <;> rfl
  unfold madeCells flat
  simp only [e]
  apply Array.ext <;> simp
theorem make_tags (n : Nat) (k : IntKind) (hn : n ≤ 10000) (w : World) : (Instr.makeSlice 43 (.int k (n : Int)) (.int k (n : Int))).run Try.prog w = .ok (.slice (some ⟨w.heap.size, 0, none⟩) n n) (w.alloc (.cells (flat n (fun _ => T7.zero)) 49)) := by
  obtain ⟨i0, hi, hz0, hz1, hz2⟩ := info_parts infoTag
  have := run_make w 43 49 i0 _ Try.underlying43 hi hz0 k k (n : Int) (n : Int) (by omega) (Int.le_refl _) (by rw [hz2]; omega) (by omega)
  rw [this, hz1, ← made_tags]
  simp

/-! ### A ground's words that hold tags -/
def T7.pk (t : T7) : Int := packI t.k t.c t.n t.s t.d t.g t.o
def T7.right (t : T7) : Prop := RightT t.k t.c t.n t.s t.d t.g t.o
/-- Each block's first word says the tag. -/
def TagsIn (n : Nat) (f : Nat → T7) (zs : List Int) : Prop := ∀ b, b < n → (f b).right ∧ nth zs (25 + b * 16) = (f b).pk
theorem TagsIn.zero (n q : Nat) : TagsIn n (fun _ => T7.zero) (List.replicate q 0) := by
  intro b hb
  refine ⟨?_, nth_rep _ _⟩
  unfold T7.right T7.zero RightT
  refine ⟨?_, ?_, ?_, ?_, ?_, ?_, ?_, ?_, ?_⟩ <;> simp
theorem TagsIn.put {n : Nat} {f : Nat → T7} {zs : List Int} (h : TagsIn n f zs) {j : Nat} (hj : j < n) {t : T7} (ht : t.right) (hl : 25 + n * 16 ≤ zs.length + 1) : TagsIn n (upd f j t) (zs.set (25 + j * 16) t.pk) := by
  intro b hb
  by_cases e : b = j
  · subst e
    rw [upd_eq]
    exact ⟨ht, nth_set_eq (by omega) _⟩
  · rw [upd_ne _ _ e, nth_set_ne (by omega)]
    exact h b hb
def cfT (n : Nat) : Cf := ⟨n, 16, 1, 1⟩
theorem cfT_size (n : Nat) : (cfT n).size = 25 + n * 16 := by show 24 + 1 + n * 16 = _; omega
theorem cfT_may {n : Nat} (h0 : 1 ≤ n) (h1 : n ≤ 60) : (cfT n).May := by
  constructor <;> simp [cfT] <;> omega
theorem cfT_word {n j : Nat} (hj : j < n) : wordA (cfT n) (j : Int) 0 = some (25 + j * 16) := by
  unfold wordA
  rw [show bel (j : Int) (cfT n).N = true from bel_mk hj, show bel 0 (cfT n).W = true from rfl]
  show some (24 + 1 + (j : Int).toNat * 16 + (0 : Int).toNat) = _
  congr 1
theorem newT (n : Nat) (w : World) (h0 : 1 ≤ n) (h1 : n ≤ 60) :
    Calls Try.prog 24 #[.agg #[.int .i64 (n : Int), .int .i64 16, .int .i64 1, .int .i64 1]] w (NewG 68 89 50 w (cfT n)) :=
  gnew_yes (cfT n) w (cfT_may h0 h1)

end Go.Proofs.Ytkcfgjedhgagdaa.Pk
