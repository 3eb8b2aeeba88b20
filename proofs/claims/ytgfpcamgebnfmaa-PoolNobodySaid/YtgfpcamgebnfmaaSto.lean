/-
  A store in memory: a struct of a slice of words and a meter; its words in a block of their own. No program in sight.
-/
import Derived.Test.YtgfpcamgebnfmaaTouch
import Derived.Laws.CopyOwn
import Derived.Laws.CopyRow
namespace Go.Proofs.Ytgfpcamgebnfmaa.Pk
open Go.RowKit
set_option linter.unusedVariables false
set_option linter.unusedSimpArgs false

def words (zs : List Int) : Array Value := (zs.map (Value.int .u32)).toArray
theorem words_get {zs : List Int} {i : Nat} (h : i < zs.length) : (words zs)[i]? = some (.int .u32 (nth zs i)) := by
  unfold words nth; simp [List.getD, h]
theorem words_set (zs : List Int) (i : Nat) (v : Int) : (words zs).setIfInBounds i (.int .u32 v) = words (zs.set i v) := by
  unfold words; simp [List.map_set]
theorem words_size (zs : List Int) : (words zs).size = zs.length := by unfold words; simp

/-- The store at s: its words zs in block g, its meter m. t, e: the struct's type, the words'. -/
structure Sto (w : World) (t e : TypeId) (s g : Nat) (zs : List Int) (m : Int) : Prop where
  head : Blk w s #[.slice (some ⟨g, 0, none⟩) zs.length zs.length, .int .u64 m] t
  body : Blk w g (words zs) e
  apart : s ≠ g

/-- The store's blocks. -/
def inSto (s g : Nat) : Nat → Prop := fun k => k = s ∨ k = g

theorem Sto.touch {X : Nat → Prop} {w w' : World} {t e : TypeId} {s g : Nat} {zs : List Int} {m : Int} (h : Sto w t e s g zs m) (k : Touch X w w') (hs : ¬ X s) (hg : ¬ X g) : Sto w' t e s g zs m :=
  ⟨h.head.touch k hs, h.body.touch k hg, h.apart⟩
theorem Sto.later {w w' : World} {t e : TypeId} {s g : Nat} {zs : List Int} {m : Int} (h : Sto w t e s g zs m) (k : Below w.heap.size w w') : Sto w' t e s g zs m :=
  ⟨h.head.later k, h.body.later k, h.apart⟩
theorem Sto.slice {w : World} {t e : TypeId} {s g : Nat} {zs : List Int} {m : Int} (h : Sto w t e s g zs m) : w.cell? ⟨s, 0, none⟩ = some (.slice (some ⟨g, 0, none⟩) zs.length zs.length) := h.head.cell 0 rfl
theorem Sto.meter {w : World} {t e : TypeId} {s g : Nat} {zs : List Int} {m : Int} (h : Sto w t e s g zs m) : w.cell? ⟨s, 1, none⟩ = some (.int .u64 m) := h.head.cell 1 rfl
theorem Sto.word {w : World} {t e : TypeId} {s g : Nat} {zs : List Int} {m : Int} (h : Sto w t e s g zs m) {i : Nat} (hi : i < zs.length) : w.cell? ⟨g, i, none⟩ = some (.int .u32 (nth zs i)) := h.body.cell i (words_get hi)
theorem Sto.count {w : World} {t e : TypeId} {s g : Nat} {zs : List Int} {m : Int} (h : Sto w t e s g zs m) (m' : Int) : Sto (w.setCell ⟨s, 1, none⟩ (.int .u64 m')) t e s g zs m' :=
  ⟨h.head.put 1 _ (by simp), h.body.other (p := ⟨s, 1, none⟩) h.apart _, h.apart⟩
theorem Sto.put {w : World} {t e : TypeId} {s g : Nat} {zs : List Int} {m : Int} (h : Sto w t e s g zs m) (i : Nat) (v : Int) : Sto (w.setCell ⟨g, i, none⟩ (.int .u32 v)) t e s g (zs.set i v) m :=
  ⟨by rw [List.length_set]; exact h.head.other (p := ⟨g, i, none⟩) (Ne.symm h.apart) _, h.body.put i _ (words_set zs i v), h.apart⟩
theorem Sto.row {w : World} {t e : TypeId} {s g : Nat} {zs : List Int} {m : Int} (h : Sto w t e s g zs m) : Row w .u32 (some ⟨g, 0, none⟩) zs := fun i hi =>
  ⟨g, 0, rfl, h.body.lt, by rw [Nat.zero_add]; exact h.word hi⟩

theorem Sto.drew {w : World} {t e : TypeId} {s g : Nat} {zs : List Int} {m : Int} (h : Sto w t e s g zs m) : Sto w.drew t e s g zs m := ⟨h.head.drew, h.body.drew, h.apart⟩
theorem Sto.alloc {w : World} {t e : TypeId} {s g : Nat} {zs : List Int} {m : Int} (h : Sto w t e s g zs m) (o : Obj) : Sto (w.alloc o) t e s g zs m := ⟨h.head.alloc o, h.body.alloc o, h.apart⟩
/-- A call that may have changed the store's blocks: what it returns, the store behind it. -/
def StoPost (w : World) (t e : TypeId) (s g : Nat) (zs : List Int) (m : Int) (v : Value) (en : Ending) (w' : World) : Prop :=
  en = .returned v ∧ Sto w' t e s g zs m ∧ Touch (inSto s g) w w'

/-- copy, of as many words as there are: the target's block is known whole. -/
theorem wpList_copy_full {P : Program} {w : World} {ops : Array Oper} {rest : List Oper} {o : Oper} {a : Act} {Q : Exit → Act → World → Prop} (hgd : o.guard = none) (d s : Operand) (dT sT : TypeId)
    (ho : o.op = .call { callee := .builtin .copy, args := #[d, s], argTypes := #[dT, sT] }) (elem : TypeId) (hu : P.underlying dT = some (.slice elem)) (hsz : (P.info? elem).map (·.size) = some 1)
    (g n dCap : Nat) (ad : Option Addr) (sCap : Nat) (t : TypeId) (zs zs' : List Int) (hd : a.eval d = .slice (some ⟨g, 0, none⟩) n dCap) (hs : a.eval s = .slice ad n sCap)
    (hB : Blk w g (words zs) t) (hl : zs.length = n) (hl' : zs'.length = n) (hrow : Row w .u32 ad zs')
    (h : ∀ w', Blk w' g (words zs') t → Touch (· = g) w w' → wpList P ops Q rest (a.put o.dst (.int .i64 (n : Int))) w') : wpList P ops Q (o :: rest) a w := by
  by_cases h0 : n = 0
  · subst h0
    refine wpList_copy_nothing hgd d s dT sT ho elem hu hsz _ _ _ _ _ _ hd hs (by simp) ?_
    have e1 : zs = [] := List.eq_nil_of_length_eq_zero hl
    have e2 : zs' = [] := List.eq_nil_of_length_eq_zero hl'
    exact h w (by rw [e2, ← e1]; exact hB) (Touch.refl _ _)
  · obtain ⟨b, off, rfl, _, _⟩ := hrow 0 (by omega)
    have hcl : (zs'.map (Value.int .u32)).length = n := by simp [hl']
    refine wpList_copy_own hgd d s dT sT ho elem hu hsz g 0 n dCap ⟨b, off, none⟩ n sCap hd hs (words zs) t hB (zs'.map (Value.int .u32)) (by rw [hcl]; simp) ?_ (by rw [hcl, words_size]; omega) (by intro v hv; obtain ⟨x, _, rfl⟩ := List.mem_map.1 hv; rfl) ?_
    · intro j v hj
      rw [List.getElem?_map] at hj
      cases hz : zs'[j]? with
      | none => rw [hz] at hj; cases hj
      | some z =>
        rw [hz] at hj
        cases hj
        have hjl : j < zs'.length := (List.getElem?_eq_some_iff.1 hz).1
        obtain ⟨b', off', e, _, hc⟩ := hrow j hjl
        cases e
        have e2 : nth zs' j = z := by unfold nth; simp [List.getD, hz]
        rw [e2] at hc
        rw [← hc]
        unfold Addr.add
        by_cases hj0 : j = 0
        · subst hj0; rfl
        · simp [hj0]
    · rw [hcl]
      have e : (w.setRow g ((words zs).toList.take 0 ++ (zs'.map (Value.int .u32) ++ (words zs).toList.drop (0 + n))).toArray) = w.setRow g (words zs') := by
        have e3 : (words zs).toList.drop (0 + n) = [] := List.drop_eq_nil_of_le (by rw [Array.length_toList, words_size]; omega)
        rw [e3, List.take_zero, List.append_nil, List.nil_append]
        rfl
      rw [e]
      exact h _ (setRow_heap w g _ _ t _ hB) ⟨rfl, rfl, rfl, by simp [World.setRow], fun k hk hx => setRow_other w g k _ hx⟩

/-- .. as one step of a region that draws its order. -/
theorem step_copy_full {P : Program} {ops : Array Oper} {o : Oper} {a : Act} {w : World} {K : Act → World → Prop} {Q : Exit → Act → World → Prop} {E : Prop} (hgd : o.guard = none) (d s : Operand) (dT sT : TypeId)
    (ho : o.op = .call { callee := .builtin .copy, args := #[d, s], argTypes := #[dT, sT] }) (elem : TypeId) (hu : P.underlying dT = some (.slice elem)) (hsz : (P.info? elem).map (·.size) = some 1)
    (g n dCap : Nat) (ad : Option Addr) (sCap : Nat) (t : TypeId) (zs zs' : List Int) (hd : a.eval d = .slice (some ⟨g, 0, none⟩) n dCap) (hs : a.eval s = .slice ad n sCap)
    (hB : Blk w g (words zs) t) (hl : zs.length = n) (hl' : zs'.length = n) (hrow : Row w .u32 ad zs')
    (h : ∀ w', Blk w' g (words zs') t → Touch (· = g) w w' → K (a.put o.dst (.int .i64 (n : Int))) w') :
    if Region.wanted o (yielded ops a.tmps) = true then Oper.wp P o a w K Q else E := by
  have hw : Region.wanted o (yielded ops a.tmps) = true := by simp [Region.wanted, hgd]
  rw [if_pos hw]
  by_cases h0 : n = 0
  · subst h0
    have e1 : zs = [] := List.eq_nil_of_length_eq_zero hl
    have e2 : zs' = [] := List.eq_nil_of_length_eq_zero hl'
    have hrun := run_copy_none (P := P) w dT sT o.type elem (some ⟨g, 0, none⟩) ad 0 dCap 0 sCap hu hsz (by simp)
    unfold Oper.wp
    simp [execOp, ho, resolve, invoke, builtin, hd, hs, hrun, Result.andThen]
    exact h w (by rw [e2, ← e1]; exact hB) (Touch.refl _ _)
  · obtain ⟨b, off, rfl, _, _⟩ := hrow 0 (by omega)
    have hcl : (zs'.map (Value.int .u32)).length = n := by simp [hl']
    have hsrc : ∀ j v, (zs'.map (Value.int .u32))[j]? = some v → w.cell? ((⟨b, off, none⟩ : Addr).add j) = some v := by
      intro j v hj
      rw [List.getElem?_map] at hj
      cases hz : zs'[j]? with
      | none => rw [hz] at hj; cases hj
      | some z =>
        rw [hz] at hj
        cases hj
        have hjl : j < zs'.length := (List.getElem?_eq_some_iff.1 hz).1
        obtain ⟨b', off', e, _, hc⟩ := hrow j hjl
        cases e
        have e2 : nth zs' j = z := by unfold nth; simp [List.getD, hz]
        rw [e2] at hc
        rw [← hc]
        unfold Addr.add
        by_cases hj0 : j = 0
        · subst hj0; rfl
        · simp [hj0]
    have hrun := run_copy_row (P := P) w dT sT o.type elem g 0 n dCap ⟨b, off, none⟩ n sCap (words zs) t (zs'.map (Value.int .u32)) hu hsz hB (by rw [hcl]; simp) hsrc (by rw [hcl, words_size]; omega) (by intro v hv; obtain ⟨x, _, rfl⟩ := List.mem_map.1 hv; rfl)
    have e : ((words zs).toList.take 0 ++ zs'.map (Value.int .u32) ++ (words zs).toList.drop (0 + (zs'.map (Value.int .u32)).length)).toArray = words zs' := by
      have e3 : (words zs).toList.drop (0 + (zs'.map (Value.int .u32)).length) = [] := List.drop_eq_nil_of_le (by rw [Array.length_toList, words_size, hcl]; omega)
      rw [e3, List.take_zero, List.append_nil, List.nil_append]
      rfl
    rw [e, hcl] at hrun
    unfold Oper.wp
    simp only [execOp, ho, resolve, invoke, builtin, List.map_toArray, List.map_cons, List.map_nil, hd, hs]
    have h2 := h (w.setRow g (words zs')) (setRow_heap w g _ _ t _ hB) ⟨rfl, rfl, rfl, by simp [World.setRow], fun k hk hx => setRow_other w g k _ hx⟩
    simp [hrun, Result.andThen, goInt]
    exact h2

end Go.Proofs.Ytgfpcamgebnfmaa.Pk
