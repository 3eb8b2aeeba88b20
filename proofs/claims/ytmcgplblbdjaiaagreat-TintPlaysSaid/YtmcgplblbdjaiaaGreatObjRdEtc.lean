/-
  Texts laid together: ObjRd, ObjFn, ObjFn2, ObjFn3, ObjFn4, ObjFn5.
-/
import Derived.Test.YtmcgplblbdjaiaaGreatChainsEtc
import Derived.Test.YtmcgplblbdjaiaaGreatGroFnEtc
import Derived.Test.YtmcgplblbdjaiaaGreatTagFn
import Derived.Test.YtmcgplblbdjaiaaGreatShape2
import Derived.Test.YtmcgplblbdjaiaaGreatPoolFn
import Derived.Test.YtmcgplblbdjaiaaGreatTameEtc
import Derived.OwnWalk
import Derived.Laws.OwnMore
/-
  Layer 11: package obj's functions that are handed the function by which a word is got.
-/
namespace Go.Proofs.YtmcgplblbdjaiaaGreat.Pk
open Go.RowKit
set_option linter.unusedVariables false
set_option linter.unusedSimpArgs false
set_option maxRecDepth 100000

/-- What a call leaves that looks at words. -/
def LP (R : World → World → Prop) (w : World) (p : Pl) (c : Cf) (s : St) (v : Value) (e : Ending) (w' : World) : Prop := e = .returned v ∧ G w' p c s ∧ R w w'
/-- The function k gets words, with d accesses each; R: what it does to the memory. -/
structure RdF (p : Pl) (c : Cf) (k : FuncId) (d : Nat) (R : World → World → Prop) : Prop where
  refl : ∀ w, R w w
  trans : ∀ {a b e : World}, R a b → R b e → R a e
  below : ∀ {w w' : World}, Below w.heap.size w w' → R w w'
  touch : ∀ {w w' : World}, R w w' → Touch (inG p) w w'
  set : ∀ {w w' : World} {q : Addr}, R w w' → w.heap.size ≤ q.block → ∀ v, R w (w'.setCell q v)
  ent : ∀ (args : Array Value) (w : World), (callFunc k args).run Tryz.prog w = .ok (.enter k args) w
  rd : ∀ (s : St) (b v y : Int) (w : World), G w p c s → (⟨s.zs, 0⟩ : St).at? (wordA c b v) = y → Calls Tryz.prog k #[.pointer (some ⟨p.a, 0, none⟩), .int .i64 b, .int .i64 v] w (LP R w p c ⟨s.zs, s.m + d * askN (wordA c b v)⟩ (.int .u32 y))
theorem rdWord (p : Pl) (c : Cf) : RdF p c 68 1 (Touch (inG p)) where
  refl := fun w => Touch.refl _ w
  trans := fun h k => h.trans k
  below := fun h => Touch.of_below h
  touch := fun h => h
  set := fun h hq v => h.setCell (fun hlt => absurd hlt (Nat.not_lt.2 hq)) v
  ent := fun args w => rfl
  rd := fun s b v y w hG hy => by
    subst hy
    have h := word_any p c s b v w hG
    rw [s.ask_eq, ← Nat.one_mul (askN _)] at h
    exact h
section
variable {p : Pl} {c : Cf} {k : FuncId} {d : Nat} {R : World → World → Prop}
/-- Is it an object's head's tag? -/
def headB (t : Int) : Bool := uK t == 1 || uK t == 2
theorem headB_yes {t : Int} (h : HeadT t) : headB t = true := by unfold headB; rcases h with h | h <;> simp [h]
theorem headB_no {t : Int} (h : ¬ HeadT t) : headB t = false := by
  unfold headB HeadT at *
  have h1 : ¬ uK t = 1 := fun e => h (.inl e)
  have h2 : ¬ uK t = 2 := fun e => h (.inr e)
  simp [h1, h2]

theorem ob_isHead (L : RdF p c k d R) (s : St) (b t : Int) (w : World) (hG : G w p c s) (ht : tagI c s.zs b = t) :
    Calls Tryz.prog 128 #[.func (.func k) #[.pointer (some ⟨p.a, 0, none⟩)] #[], .int .i64 b] w (LP R w p c ⟨s.zs, s.m + d * askN (wordA c b 0)⟩ (.bool (headB t))) := by
  have H := Lib.hid (L.rd s b 0 t w hG ht)
  have hbd := tagI_bd hG b
  rw [ht] at hbd
  have hfd := pl_field0
  have HL := Lib.hid L
  have hent := L.ent
  obtain ⟨k1, e1⟩ : ∃ x, (uK t == 1) = x := ⟨_, rfl⟩
  obtain ⟨k2, e2⟩ : ∃ x, (uK t == 2) = x := ⟨_, rfl⟩
  have E : Hid (headB t = (k1 || k2)) := Lib.hid (by unfold headB; rw [e1, e2])
  clear hG ht L
  cases k1 <;> cases k2
  all_goals
    go_enter Tryz.func128, Tryz.ntmps128
    go_wp2_with fail
    refine H.out.mono ?_
    rintro e w1 ⟨rfl, hG, hR⟩
    have HG := Lib.hid hG
    have HR := Lib.hid hR
    clear hG hR
    go_wp2_with fail
    refine (tunpack_any t _ hbd.1 hbd.2).mono ?_
    rintro e w2 ⟨rfl, hb⟩
    have HB := Lib.hid hb
    clear hb
    go_wp2_with fail
    go_ret
    exact ⟨by rw [E.out]; rfl, HG.out.later HB.out, HL.out.trans HR.out (HL.out.below HB.out)⟩

/-! ### Leaves and places -/
end
end Go.Proofs.YtmcgplblbdjaiaaGreat.Pk

/-
  Layer 11: what package obj's functions return of a heap.
-/
namespace Go.Proofs.YtmcgplblbdjaiaaGreat.Pk
open Go.RowKit
set_option linter.unusedVariables false
set_option linter.unusedSimpArgs false
set_option maxRecDepth 100000

/-- Whoever is no object's reference is no head's. -/
theorem heap_noHead {c : Cf} {zs : List Int} {pool : List Nat} {os : List Ob} (H : HeapAt c zs pool os) (hm : c.May) {r : Int} (h : obAt os r = none) : ¬ HeadT (tagI c zs (r - 1)) := by
  by_cases hr : 0 ≤ r - 1 ∧ r - 1 < (c.N : Int)
  · obtain ⟨b, hb⟩ : ∃ b : Nat, r - 1 = (b : Int) := ⟨(r - 1).toNat, by omega⟩
    rw [hb, tagI_in hm (by omega)]
    rcases H.all (b := b) (by omega) with hp | ⟨o, ho, hbo⟩
    · rw [H.pl.fr b hp]; unfold HeadT uK; decide
    · have hne : o.h ≠ b := fun e => obAt_none h o ho (by omega)
      have : b ∈ o.leaves := by
        unfold Ob.blocks at hbo
        rcases List.mem_cons.1 hbo with e | e
        · exact absurd e.symm hne
        · exact e
      rw [(H.obs o ho).leaf b (Ob.mem_leaves.1 this)]
      unfold HeadT uK; omega
  · rw [tagI_out hr]; unfold HeadT uK; decide
theorem w64_in {x : Int} (h : -9223372036854775808 ≤ x ∧ x ≤ 9223372036854775807) : wrap64 x = x := IntWalk.wrap64_in x h
/-- The number ahead of a reference. -/
def prev (r : Int) : Int := wrap64 (r - 1)
theorem prev_in {r : Int} (hr : In64 r) (h : r ≠ -9223372036854775808) : prev r = r - 1 := by
  unfold In64 at hr
  exact w64_in (by omega)
theorem prev_ob {c : Cf} (hm : c.May) {h : Nat} (hh : h < c.N) : prev ((h : Int) + 1) = (h : Int) := by
  have := hm.n
  unfold prev
  rw [show (h : Int) + 1 - 1 = (h : Int) by omega]
  exact w64_in (by omega)
theorem w64_ob {c : Cf} (hm : c.May) {h : Nat} (hh : h < c.N) : wrap64 (h : Int) = (h : Int) := by
  have := hm.n
  exact w64_in (by omega)
/-- Less one: whatever it wraps to. -/
theorem noHead_prev {c : Cf} {zs : List Int} {pool : List Nat} {os : List Ob} (H : HeapAt c zs pool os) (hm : c.May) {r : Int} (hr : In64 r) (h : Pk.obAt os r = none) : ¬ HeadT (tagI c zs (prev r)) := by
  have hN := hm.n
  by_cases e : r = -9223372036854775808
  · subst e
    rw [show prev (-9223372036854775808) = 9223372036854775807 from by unfold prev wrap64; decide, tagI_out (by omega)]
    unfold HeadT uK; decide
  · rw [prev_in hr e]
    exact heap_noHead H hm h

section
variable {p : Pl} {c : Cf} {s : St} {pool : List Nat} {os : List Ob} {o : Ob} {r : Int} {w : World}
end
end Go.Proofs.YtmcgplblbdjaiaaGreat.Pk

/-
  Layer 11: what is asked, got and set of an object; Blocks, Shed, End.
-/
namespace Go.Proofs.YtmcgplblbdjaiaaGreat.Pk
open Go.RowKit
set_option linter.unusedVariables false
set_option linter.unusedSimpArgs false
set_option maxRecDepth 100000

section
variable {p : Pl} {c : Cf} {s : St} {pool : List Nat} {os : List Ob} {o : Ob} {r : Int} {w : World}
/-! ### Is, Lens -/
theorem isB {c : Cf} {zs : List Int} (H : HeapAt c zs pool os) (hm : c.May) (hr : In64 r) : headB (tagI c zs (prev r)) = (obAt os r).isSome := by
  cases h : obAt os r with
  | none => exact headB_no (noHead_prev H hm hr h)
  | some o =>
    obtain ⟨ho, rfl⟩ := obAt_some h
    have hA := H.obs o ho
    rw [prev_ob hm hA.hlt, tagI_in hm hA.hlt]
    exact headB_yes hA.head
theorem ob_is (hG : G w p c s) (r : Int) : Calls Tryz.prog 97 #[.pointer (some ⟨p.a, 0, none⟩), .int .i64 r] w (GP w p c ⟨s.zs, s.m + 1 * askN (wordA c (prev r) 0)⟩ (.bool (headB (tagI c s.zs (prev r))))) := by
  have hmf : ∀ (fn : Fn) (first cap : Array Value) (w : World), (Instr.makeFunc fn first cap).run Tryz.prog w = .ok (.func fn first cap) w := fun _ _ _ _ => rfl
  have H := Lib.hid (ob_isHead (rdWord p c) s (prev r) _ w hG rfl)
  have e1 : wrap64 (r - 1) = prev r := rfl
  have HG := Lib.hid hG
  generalize headB (tagI c s.zs (prev r)) = hb at *
  clear hG
  go_enter Tryz.func97, Tryz.ntmps97
  have HT0 : Hid (Touch (inG p) w w) := Lib.hid (Touch.refl _ _)
  go_wp2_with fail
  refine (H.out).mono ?_
  rintro e wm1 ⟨rfl, hG, hT⟩
  have HG1 := Lib.hid hG
  have HT1 : Hid (Touch (inG p) _ wm1) := Lib.hid (HT0.out.trans hT)
  clear hG hT
  go_wp2_with fail
  go_ret
  exact ⟨rfl, HG1.out, HT1.out⟩
/-! ### Ptr, Data -/
/-! ### SetPtr, SetData -/
/-! ### Blocks -/
/-! ### Shed, End -/
end
end Go.Proofs.YtmcgplblbdjaiaaGreat.Pk

/-
  Layer 11: how an object is made.
-/
namespace Go.Proofs.YtmcgplblbdjaiaaGreat.Pk
open Go.RowKit
set_option linter.unusedVariables false
set_option linter.unusedSimpArgs false
set_option maxRecDepth 100000

section
variable {p : Pl} {c : Cf} {s : St} {w : World}
/-! ### A tag is set -/
theorem ob_setTag (b : Nat) (k o x : Int) (hG : G w p c s) (hb : b < c.N) (hr : rightB k 0 0 0 0 0 o = true) (hx : packI k 0 0 0 0 0 o = x) (h0 : 0 ≤ x) (h1 : x ≤ 4294967295) :
    Calls Tryz.prog 61 #[.pointer (some ⟨p.a, 0, none⟩), .int .i64 (b : Int), .agg #[.int .i64 k, .int .i64 0, .int .i64 0, .int .i64 0, .int .i64 0, .int .i64 0, .int .i64 o]] w (GP w p c ⟨s.zs.set (adr c b 0) x, s.m + 1⟩ (.tuple #[])) := by
  have hW := hG.may.w
  have W0 : Hid (0 < c.W) := Lib.hid (by omega)
  have HP : Hid (∀ w', Calls Tryz.prog 96 #[.agg #[.int .i64 k, .int .i64 0, .int .i64 0, .int .i64 0, .int .i64 0, .int .i64 0, .int .i64 o]] w' fun e w'' => e = .returned (.tuple #[.int .u32 x, .int .i64 0]) ∧ Below w'.heap.size w' w'') := Lib.hid (fun w' => by
    have h := tpack_yes k 0 0 0 0 0 o w' hr
    rw [hx] at h
    exact h)
  have HG0 := Lib.hid (hG.alloc (.cells #[.int .i64 k, .int .i64 0, .int .i64 0, .int .i64 0, .int .i64 0, .int .i64 0, .int .i64 o] 82))
  have HT0 : Hid (Touch (inG p) w (w.alloc (.cells #[.int .i64 k, .int .i64 0, .int .i64 0, .int .i64 0, .int .i64 0, .int .i64 0, .int .i64 o] 82))) := Lib.hid ((Touch.refl _ _).alloc _)
  have HB := Lib.hid hb
  clear hG hr hx hb hW
  go_enter Tryz.func61, Tryz.ntmps61
  go_wp2_with fail
  refine (HP.out _).mono ?_
  rintro e w1 ⟨rfl, hb⟩
  have HG1 := Lib.hid (HG0.out.later hb)
  have HT1 := Lib.hid (HT0.out.trans (Touch.of_below (X := inG p) hb))
  clear hb
  go_wp2_with fail
  refine (setwordW p c _ b 0 _ _ x _ HG1.out HB.out W0.out rfl rfl h0 h1).mono ?_
  rintro e w2 ⟨rfl, hG, hT⟩
  have HG2 := Lib.hid hG
  have HT2 := Lib.hid (HT1.out.trans hT)
  clear hG hT
  go_wp2_with fail
  go_end0
  exact ⟨rfl, HG2.out, HT2.out⟩

/-! ### Blocks are taken -/
/-- How many accesses it makes to take so many of them. -/
def takenM (c : Cf) (l pool : List Nat) : Nat → Nat
  | 0 => 0
  | k + 1 => takenM c l pool k + (takeD (l.drop (k + 1) ++ pool) + c.W)
theorem own_touchB {w w' : World} {base : Nat} {e : TypeId} {size : Nat} {v : Value} {n : Nat} {xs : List Value} {X : Nat → Prop} (h : w.ownsRow base e size v n xs) (t : Touch X w w') (hX : ∀ k, X k → k < base) : w'.ownsRow base e size v n xs := by
  refine ⟨h.1, ?_⟩
  rcases h.2 with hn | ⟨g, cap, cur, rfl, hbg, hgg, rest⟩
  · exact .inl hn
  · exact .inr ⟨g, cap, cur, rfl, hbg, (t.block g (lt_of_block hgg) (fun hx => by have := hX g hx; omega)).trans hgg, rest⟩
theorem grown_touch {w w' : World} {base : Nat} {row : Option Nat} {o : Obj} (h : (w.alloc o).grownBy w' row) (hr : ∀ k, row = some k → base ≤ k) (hb : base ≤ w.heap.size) : Touch (fun i => base ≤ i) w w' :=
  ⟨h.os, h.tape, h.output, by have := h.size; simp at this; omega, fun k hk hx => (h.block k (by simp; omega) (fun e => hx (hr k e.symm))).trans (Below.heap_alloc _ _ _ hk)⟩
theorem Touch.trans2 {X : Nat → Prop} {a b c : World} (h : Touch X a b) (k : Touch (fun i => a.heap.size ≤ i) b c) : Touch X a c :=
  ⟨k.os.trans h.os, k.tape.trans h.tape, k.output.trans h.output, Nat.le_trans h.size k.size, fun i hi hx => (k.block i (Nat.lt_of_lt_of_le hi h.size) (fun e => by have e2 : a.heap.size ≤ i := e; omega)).trans (h.block i hi hx)⟩
theorem own_slice {w : World} {base : Nat} {e : TypeId} {size : Nat} {v : Value} {n : Nat} {xs : List Value} (h : w.ownsRow base e size v n xs) : ∃ a cap, v = .slice a n cap := by
  rcases h.2 with ⟨rfl, rfl⟩ | ⟨g, cap, cur, rfl, _⟩
  · exact ⟨none, 0, rfl⟩
  · exact ⟨_, cap, rfl⟩
theorem own_some {w : World} {base : Nat} {e : TypeId} {v : Value} {zs : List Int} (h : w.ownsRow base e 1 v zs.length (zs.map (Value.int .i64))) (hl : 0 < zs.length) :
    ∃ g cap, v = .slice (some ⟨g, 0, none⟩) zs.length cap ∧ zs.length ≤ cap ∧ cap ≤ maxLen ∧ base ≤ g ∧ Row w .i64 (some ⟨g, 0, none⟩) zs := by
  obtain ⟨a, cap, hv, hr⟩ := Row.of_owns h
  rcases h.2 with ⟨h1, h2⟩ | ⟨g, cap', cur, h1, hb, hg, h3, h4, _⟩
  · omega
  · subst h1
    cases hv
    exact ⟨g, _, rfl, h3, h4, hb, hr⟩
theorem ints_snoc {l : List Nat} {k : Nat} (hk : k < l.length) : (ints l).take (k + 1) = (ints l).take k ++ [(l[k] : Int)] := by
  unfold ints
  rw [List.take_succ_eq_append_getElem (by simpa using hk), List.getElem_map]
def Taken (w : World) (p : Pl) (c : Cf) (s : St) (l : List Nat) (D : Nat) (e : Ending) (w' : World) : Prop :=
  ∃ g cap, e = .returned (.tuple #[.slice (some ⟨g, 0, none⟩) l.length cap, .bool true]) ∧ l.length ≤ cap ∧ cap ≤ maxLen ∧ w.heap.size ≤ g ∧ Row w' .i64 (some ⟨g, 0, none⟩) (ints l) ∧ G w' p c ⟨takenZ c l s.zs, s.m + D⟩ ∧ Touch (inG p) w w'

theorem taken_at {c : Cf} {zs : List Int} {l pool : List Nat} (hP : PoolAt c zs (l ++ pool)) (hm : c.May) (hz : zs.length = c.size) (hn : l.Nodup) (k : Nat) : PoolAt c (takenZ c (l.take k) zs) (l.drop k ++ pool) := by
  have e : l ++ pool = l.take k ++ (l.drop k ++ pool) := by rw [← List.append_assoc, List.take_append_drop]
  rw [e] at hP
  exact (PoolAt.taken (l.take k) hP hm hz (List.Sublist.nodup (List.take_sublist k l) hn)).1
set_option maxHeartbeats 4000000 in
theorem ob_take (l pool : List Nat) (n : Int) (hn : n = (l.length : Int)) (hG : G w p c s) (hP : PoolAt c s.zs (l ++ pool)) (hnd : l.Nodup) (h0 : 0 < l.length) :
    Calls Tryz.prog 59 #[.pointer (some ⟨p.a, 0, none⟩), .int .i64 n] w (Taken w p c s l (takenM c l pool l.length)) := by
  subst hn
  obtain ⟨i0, hi, hz0, hz1, hz2⟩ := info_parts (show (Tryz.prog.info? 3).map (fun i => (i.zero, i.size, i.bytes)) = some (some (.int .i64 0), 1, 8) by kernel_rfl)
  have hm := hG.may
  have hN := hm.n
  have hlk : l.length ≤ c.N := nodup_len hnd (fun b hb => hP.ch.lt b (List.mem_append_left _ hb))
  have HP := Lib.hid (taken_at hP hm hG.len hnd)
  have HG := Lib.hid hG
  have HIN : Hid (∀ k, ofG p k → k < w.heap.size) := Lib.hid (fun k hk => hG.ofG_lt hk)
  clear hP hnd hm
  go_enter Tryz.func59, Tryz.ntmps59
  go_wp2_with fail
  go_loopw [6, 10] (fun v i wr => ∃ k : Nat, k ≤ l.length ∧ i = .int .i64 (k : Int) ∧ G wr p c ⟨takenZ c (l.take k) s.zs, s.m + takenM c l pool k⟩ ∧ wr.ownsRow w.heap.size 3 1 v k (((ints l).take k).map (Value.int .i64)) ∧ Touch (inG p) w wr) (fun _ i _ => l.length - (intOf i).toNat)
  case atStart =>
    refine ⟨0, Nat.zero_le _, rfl, HG.out, ?_, Touch.refl _ _⟩
    exact World.ownsRow_nil _ _ _ _
  case round =>
    obtain ⟨k, hk, rfl, hG, hown, hT⟩ := hrel
    obtain ⟨a, cap, rfl⟩ := own_slice hown
    have HG1 := Lib.hid hG
    have HO1 := Lib.hid hown
    have HT1 := Lib.hid hT
    clear hG hown hT HG
    by_cases hlt : k < l.length
    · have hC : ChainAt c (takenZ c (l.take k) s.zs) 0 (l[k] :: (l.drop (k + 1) ++ pool)) := by
        have := (HP.out k).ch
        rw [List.drop_eq_getElem_cons hlt] at this
        exact this
      have HTk := Lib.hid (ints_snoc hlt)
      have HTz : Hid (takenZ c (l.take (k + 1)) s.zs = poolTakeZ c l[k] (takenZ c (l.take k) s.zs)) := Lib.hid (by
        rw [List.take_succ_eq_append_getElem hlt, takenZ_snoc])
      have HC := Lib.hid hC
      clear hC
      generalize l[k] = b at *
      go_wp2_with fail
      refine (pl_take_yes p c _ b _ _ HG1.out HC.out).mono ?_
      rintro e w2 ⟨rfl, hG, hT⟩
      have hown := own_touchB HO1.out hT (fun k hk => HIN.out k (Or.inr hk))
      have hsz : w.heap.size ≤ w2.heap.size := Nat.le_trans HT1.out.size hT.size
      have HT2 := Lib.hid (HT1.out.trans hT)
      have HG2 : Hid (G w2 p c ⟨takenZ c (l.take (k + 1)) s.zs, s.m + takenM c l pool (k + 1)⟩) := Lib.hid (hG.to HTz.out.symm (by show s.m + takenM c l pool k + (takeD (l.drop (k + 1) ++ pool) + c.W) = s.m + (takenM c l pool k + (takeD (l.drop (k + 1) ++ pool) + c.W)); omega))
      clear hG hT HG1
      go_wp2_with (at_builtin; refine wpList_append_own _ rfl _ _ 54 rfl w.heap.size 3 i0 (.int .i64 0) 1 8 Tryz.underlying54 hi hz0 hz1 hz2 rfl (by decide) _ _ _ rfl (hown.alloc _) ⟨w2.heap.size, 0, none⟩ 1 1 [.int .i64 (b : Int)] rfl rfl ?c1 ?c2 ?c3 ?c4 ?c5 ?c6)
      case c1 => exact cell_one_new w2 _ _
      case c2 => intro u hu; simp at hu; subst hu; rfl
      case c3 => unfold maxLen; omega
      case c4 => omega
      case c5 => simp; omega
      case c6 =>
        intro v' w4 hown' hgrow _
        have HX : Hid (Touch (fun i => w.heap.size ≤ i) w2 w4) := Lib.hid (grown_touch hgrow (owns_block hown) hsz)
        have HO4 : Hid (w4.ownsRow w.heap.size 3 1 v' (k + 1) (((ints l).take (k + 1)).map (Value.int .i64))) := Lib.hid (by
          rw [HTk.out]
          simpa using hown')
        have HG4 : Hid (G w4 p c ⟨takenZ c (l.take (k + 1)) s.zs, s.m + takenM c l pool (k + 1)⟩) := Lib.hid (HG2.out.touch HX.out (fun i hi hx => by have h1 : w.heap.size ≤ i := hx; have := HIN.out i hi; omega))
        have HT4 : Hid (Touch (inG p) w w4) := Lib.hid (HT2.out.trans2 HX.out)
        clear hown' hgrow hown hsz
        go_wp2_with fail
        go_roundw
        case rel => exact ⟨k + 1, by omega, rfl, HG4.out, HO4.out, HT4.out⟩
        case measure => simp [intOf]; omega
    · have he : k = l.length := by omega
      subst he
      have h1 := HO1.out
      rw [← ints_length l, List.take_length] at h1
      obtain ⟨g, cap', hv, q1, q2, q3, q4⟩ := own_some h1 (by rw [ints_length]; exact h0)
      rw [ints_length] at hv q1 h1
      cases hv
      have HG2 : Hid (G wr p c ⟨takenZ c l s.zs, s.m + takenM c l pool l.length⟩) := Lib.hid (by have := HG1.out; rw [List.take_length] at this; exact this)
      have Q4 := Lib.hid q4
      clear h1 q4 HG1 HO1
      go_wp2_with fail
      go_ret2
      exact ⟨g, _, rfl, q1, q2, q3, Q4.out, HG2.out, HT1.out⟩

/-! ### A head is written -/
theorem lens_ix0 (a b : Value) (w : World) : (Instr.index 79 (.agg #[a, b]) (.int .i64 0)).run Tryz.prog w = .ok a w := by kernel_rfl
theorem lens_ix1 (a b : Value) (w : World) : (Instr.index 79 (.agg #[a, b]) (.int .i64 1)).run Tryz.prog w = .ok b w := by kernel_rfl
/-- The words behind a head's first three words. -/
def kindV (ls : List Nat) : Int := if ls.length = 0 then 1 else 2
theorem kindV_right (ls : List Nat) : rightB (kindV ls) 0 0 0 0 0 0 = true ∧ packI (kindV ls) 0 0 0 0 0 0 = kindOf ls ∧ 0 ≤ kindOf ls ∧ kindOf ls ≤ 4294967295 := by
  unfold kindV kindOf
  by_cases h : ls.length = 0
  · simp only [if_pos h]; decide
  · simp only [if_neg h]; decide
set_option maxHeartbeats 4000000 in
theorem ob_setHead (h : Nat) (np nd : Nat) (ls : List Nat) (g off cap : Nat) (hG : G w p c s) (hh : h < c.N) (h1 : np ≤ 1000000) (h2 : nd ≤ 1000000) (hr : Row w .i64 (some ⟨g, off, none⟩) (ints ls)) (hg : ¬ inG p g) (hl : 8 + ls.length ≤ c.W) (hb : ∀ b, b ∈ ls → b < c.N) :
    Calls Tryz.prog 60 #[.pointer (some ⟨p.a, 0, none⟩), .int .i64 (h : Int), .agg #[.int .i64 (np : Int), .int .i64 (nd : Int)], .slice (some ⟨g, off, none⟩) ls.length cap] w
      (GP w p c ⟨nameZ c h ls ls.length (headZ c h (kindOf ls) np nd s.zs), s.m + (3 + ls.length)⟩ (.tuple #[])) := by
  have hW := hG.may.w
  have hN := hG.may.n
  obtain ⟨k1, k2, k3, k4⟩ := kindV_right ls
  have W1 : Hid (1 < c.W) := Lib.hid (by omega)
  have W2 : Hid (2 < c.W) := Lib.hid (by omega)
  have HTg : Hid (∀ w' s', G w' p c s' → Calls Tryz.prog 61 #[.pointer (some ⟨p.a, 0, none⟩), .int .i64 (h : Int), .agg #[.int .i64 (kindV ls), .int .i64 0, .int .i64 0, .int .i64 0, .int .i64 0, .int .i64 0, .int .i64 0]] w' (GP w' p c ⟨s'.zs.set (adr c h 0) (kindOf ls), s'.m + 1⟩ (.tuple #[]))) := Lib.hid (fun w' s' hG' => ob_setTag h _ _ _ hG' hh k1 k2 k3 k4)
  have u1 : IntKind.u32.wrap (np : Int) = (np : Int) := IntWalk.u32_in _ (by omega)
  have u2 : IntKind.u32.wrap (nd : Int) = (nd : Int) := IntWalk.u32_in _ (by omega)
  have HG0 := Lib.hid (hG.alloc (.cells #[.int .i64 (np : Int), .int .i64 (nd : Int)] 79))
  have BB0 := Lib.hid (Blk.new w #[.int .i64 (np : Int), .int .i64 (nd : Int)] 79)
  have HT0 : Hid (Touch (inG p) w (w.alloc (.cells #[.int .i64 (np : Int), .int .i64 (nd : Int)] 79))) := Lib.hid ((Touch.refl _ _).alloc _)
  have NB : Hid (¬ inG p w.heap.size) := Lib.hid (inG_new hG)
  have HR0 := Lib.hid (hr.alloc (.cells #[.int .i64 (np : Int), .int .i64 (nd : Int)] 79))
  have HO : Hid (RowOut (inG p) (some ⟨g, off, none⟩) (ints ls)) := Lib.hid (fun _ b off' e hx => by cases e; exact hg hx)
  have HH := Lib.hid hh
  have HBd := Lib.hid hb
  have HL8 := Lib.hid hl
  have hkd : ls.length = 0 ∧ kindV ls = 1 ∨ 0 < ls.length ∧ kindV ls = 2 := by unfold kindV; by_cases e : ls.length = 0 <;> simp [e]; omega
  have HKd := Lib.hid hkd
  have hlb : ls.length ≤ 256 := by omega
  have hgl : Hid (0 < ls.length → g < w.heap.size) := Lib.hid (fun h0 => by obtain ⟨b, o, e, hlt, _⟩ := hr 0 (by rw [ints_length]; exact h0); cases e; exact hlt)
  have hx0 := fun w' : World => lens_ix0 (.int .i64 (np : Int)) (.int .i64 (nd : Int)) w'
  have hx1 := fun w' : World => lens_ix1 (.int .i64 (np : Int)) (.int .i64 (nd : Int)) w'
  clear hG hr k1 k2 k3 k4 hh hb hl hkd hg
  go_enter Tryz.func60, Tryz.ntmps60
  rcases HKd.out with ⟨hl0, hkv⟩ | ⟨hl0, hkv⟩
  all_goals
    rw [hkv] at HTg
    clear hkv HKd
    generalize hls : kindOf ls = kd at *
    go_wp2_with fail
    refine (HTg.out _ _ HG0.out).mono ?_
    rintro e w1 ⟨rfl, hG, hT⟩
    have HG1 := Lib.hid hG
    have HT1 := Lib.hid (HT0.out.trans hT)
    have BB1 := Lib.hid (BB0.out.touch hT NB.out)
    have HR1 := Lib.hid (HR0.out.touch hT HO.out)
    clear hG hT HG0 HT0 BB0 HR0
    have c0 := BB1.out.cell 0 rfl
    have c1 := BB1.out.cell 1 rfl
    go_wp2_with fail
    refine wp_loop_rounds 3 ?_
    rw [rounds_succ]
    go_wp2_with fail
    refine (setwordW p c _ h 1 _ _ (np : Int) _ HG1.out HH.out W1.out rfl rfl (by omega) (by omega)).mono ?_
    rintro e w2 ⟨rfl, hG, hT⟩
    have HG2 := Lib.hid hG
    have HT2 := Lib.hid (HT1.out.trans hT)
    have HR2 := Lib.hid (HR1.out.touch hT HO.out)
    clear hG hT HG1 HT1 BB1 HR1 c0 c1
    go_wp2_with fail
    rw [rounds_succ]
    go_wp2_with fail
    refine (setwordW p c _ h 2 _ _ (nd : Int) _ HG2.out HH.out W2.out rfl rfl (by omega) (by omega)).mono ?_
    rintro e w3 ⟨rfl, hG, hT⟩
    have HG3 : Hid (G w3 p c ⟨nameZ c h ls 0 (headZ c h kd np nd s.zs), s.m + (3 + 0)⟩) := Lib.hid (hG.to rfl rfl)
    have HT3 := Lib.hid (HT2.out.trans hT)
    have HR3 := Lib.hid (HR2.out.touch hT HO.out)
    clear hG hT HG2 HT2 HR2
    go_wp2_with fail
    rw [rounds_succ]
    go_wp2_with fail
  · have HE : Hid (G w3 p c ⟨nameZ c h ls ls.length (headZ c h kd np nd s.zs), s.m + (3 + ls.length)⟩) := Lib.hid (by rw [hl0]; exact HG3.out)
    refine wp_loop_rounds 1 ?_
    rw [rounds_succ]
    go_wp2_with fail
    go_end0
    exact ⟨rfl, HE.out, HT3.out⟩
  · go_loopw [36] (fun i wr => ∃ k : Nat, k ≤ ls.length ∧ i = .int .i64 (k : Int) ∧ G wr p c ⟨nameZ c h ls k (headZ c h kd np nd s.zs), s.m + (3 + k)⟩ ∧ Row wr .i64 (some ⟨g, off, none⟩) (ints ls) ∧ Touch (inG p) w wr) (fun i _ => ls.length - (intOf i).toNat)
    case atStart => exact ⟨0, Nat.zero_le _, rfl, HG3.out, HR3.out, HT3.out⟩
    case round =>
      obtain ⟨k, hk, rfl, hG, hR, hT⟩ := hrel
      have HG4 := Lib.hid hG
      have HR4 := Lib.hid hR
      have HT4 := Lib.hid hT
      clear hG hR hT HG3 HR3 HT3
      by_cases hlt : k < ls.length
      · obtain ⟨b0, o0, e0, hlt0, hc0⟩ := HR4.out k (by rw [ints_length]; exact hlt)
        cases e0
        rw [ints_nth hlt] at hc0
        have HLb : Hid (ls[k] < c.N) := Lib.hid (HBd.out _ (List.getElem_mem hlt))
        have HNx : Hid (nameZ c h ls (k + 1) (headZ c h kd np nd s.zs) = (nameZ c h ls k (headZ c h kd np nd s.zs)).set (adr c h (8 + k)) ((ls[k] : Int) + 1)) := Lib.hid (by
          show (nameZ c h ls k (headZ c h kd np nd s.zs)).set (adr c h (8 + k)) (((ls.getD k 0 : Nat) : Int) + 1) = _
          simp [List.getD, hlt])
        generalize ls[k] = b at *
        have hbN := HLb.out
        have hkW : Hid (8 + k < c.W) := Lib.hid (by have := HL8.out; omega)
        have v1 : IntKind.i64.wrap ((b : Int) + 1) = (b : Int) + 1 := IntWalk.i64_in _ (by omega)
        have v2 : IntKind.u32.wrap ((b : Int) + 1) = (b : Int) + 1 := IntWalk.u32_in _ (by omega)
        have v3 : IntKind.i64.wrap (8 + (k : Int)) = 8 + (k : Int) := IntWalk.i64_in _ (by omega)
        go_wp2_with fail
        refine (setwordW p c _ h (8 + k) _ (8 + (k : Int)) ((b : Int) + 1) _ HG4.out HH.out hkW.out rfl (by omega) (by omega) (by omega)).mono ?_
        rintro e w5 ⟨rfl, hG, hT⟩
        have HG5 : Hid (G w5 p c ⟨nameZ c h ls (k + 1) (headZ c h kd np nd s.zs), s.m + (3 + (k + 1))⟩) := Lib.hid (by
          rw [HNx.out]; exact hG.to rfl rfl)
        have HT5 := Lib.hid (HT4.out.trans hT)
        have HR5 := Lib.hid (HR4.out.touch hT HO.out)
        clear hG hT
        go_wp2_with fail
        go_roundw
        case rel => exact ⟨k + 1, by omega, rfl, HG5.out, HR5.out, HT5.out⟩
        case measure => simp [intOf]; omega
      · have he : k = ls.length := by omega
        subst he
        go_wp2_with fail
        go_end0
        exact ⟨rfl, HG4.out, HT4.out⟩

/-! ### Make -/
/-- How many accesses a Make makes. -/
def madeM (c : Cf) (ls pool : List Nat) (h : Nat) : Nat := 1 + takenM c (h :: ls) pool (h :: ls).length + (3 + ls.length) + ls.length
theorem leaf_right {c : Cf} (hm : c.May) {h : Nat} (hh : h < c.N) : rightB 3 0 0 0 0 0 (h : Int) = true ∧ packI 3 0 0 0 0 0 (h : Int) = 3 + 256 * (h : Int) ∧ 0 ≤ 3 + 256 * (h : Int) ∧ 3 + 256 * (h : Int) ≤ 4294967295 := by
  have := hm.n
  refine ⟨?_, ?_, by omega, by omega⟩
  · rw [rightB_iff]; unfold RightT; omega
  · unfold packI; omega
set_option maxHeartbeats 1500000 in
theorem ob_make_yes (u : Nat) (np nd : Nat) (ls pool : List Nat) (os : List Ob) (hG : G w p c s) (H : HeapAt c s.zs (u :: ls ++ pool) os) (he : sizeE c.W np nd = 0) (hbl : (1 + ls.length : Int) = blocksV c.W np nd) :
    Calls Tryz.prog 15 #[.pointer (some ⟨p.a, 0, none⟩), .int .i64 (np : Int), .int .i64 (nd : Int)] w (GP w p c ⟨madeZ c u ls np nd s.zs, s.m + madeM c ls pool u⟩ (.tuple #[.int .i64 ((u : Int) + 1), .int .i64 0])) := by
  have hm := hG.may
  have hN := hm.n
  have hW := hm.w
  obtain ⟨q0, q1, q2, q3, q4⟩ := sizeE_ok he
  have hlv : (ls.length : Int) = leavesI c.W (np + nd) := by unfold blocksV at hbl; rw [if_pos he] at hbl; omega
  have hL := leaves_bd q0 q1 q4
  have hfi : fieldsI c.W ≤ 63240 := by
    unfold fieldsI
    have a1 : (0 : Int) ≤ (c.W : Int) - 8 := by omega
    have a2 : (c.W : Int) - 8 ≤ 248 := by omega
    have a3 : (c.W : Int) - 1 ≤ 255 := by omega
    have a4 : (0 : Int) ≤ (c.W : Int) - 1 := by omega
    have := Int.mul_le_mul a2 a3 a4 (by omega : (0 : Int) ≤ 248)
    omega
  have hnd : (u :: ls).Nodup := by
    have := H.nodup
    rw [List.nodup_append] at this
    exact (List.nodup_append.1 this.1).1
  have hlt : ∀ b, b ∈ u :: ls → b < c.N := fun b hb => H.pl.ch.lt b (List.mem_append_left _ hb)
  have hhN := hlt u (by simp)
  have hbN : ∀ b, b ∈ ls → b < c.N := fun b hb => hlt b (by simp [hb])
  obtain ⟨B, hB⟩ : ∃ B : Int, B = 1 + (ls.length : Int) := ⟨_, rfl⟩
  obtain ⟨T, hT⟩ : ∃ T : Int, T = ((u :: ls ++ pool).length : Int) := ⟨_, rfl⟩
  have hSB := shBlocks_any c.W np nd
  rw [← hbl, he, ← hB] at hSB
  have HSB := Lib.hid hSB
  have HLen := Lib.hid (fun w' (hG' : G w' p c s) => pl_len p c s _ w' hG' H.pl.ch)
  rw [← hT] at HLen
  obtain ⟨D, hD⟩ : ∃ D, D = takenM c (u :: ls) pool (u :: ls).length := ⟨_, rfl⟩
  obtain ⟨Z, hZ⟩ : ∃ Z, Z = takenZ c (u :: ls) s.zs := ⟨_, rfl⟩
  have hTk := fun w' (hG' : G w' p c ⟨s.zs, s.m + 1⟩) => ob_take (s := ⟨s.zs, s.m + 1⟩) (u :: ls) pool B (by rw [hB]; simp; omega) hG' H.pl hnd (by simp)
  unfold Taken at hTk
  simp only [← hD, ← hZ] at hTk
  have HTk := Lib.hid hTk
  have HE : Hid (ownZ c u ls ls.length (nameZ c u ls ls.length (headZ c u (kindOf ls) np nd Z)) = madeZ c u ls np nd s.zs) := Lib.hid (by rw [hZ]; rfl)
  have HM : Hid (1 + D + (3 + ls.length) + ls.length = madeM c ls pool u) := Lib.hid (by rw [hD]; rfl)
  clear hTk hD hZ
  obtain ⟨r1, r2, r3, r4⟩ := leaf_right hm hhN
  have HHd : Hid (∀ (w' : World) (s' : St) (g off cap n : Nat), n = ls.length → G w' p c s' → Row w' .i64 (some ⟨g, off, none⟩) (ints ls) → ¬ inG p g → Calls Tryz.prog 60 #[.pointer (some ⟨p.a, 0, none⟩), .int .i64 (u : Int), .agg #[.int .i64 (np : Int), .int .i64 (nd : Int)], .slice (some ⟨g, off, none⟩) n cap] w'
      (GP w' p c ⟨nameZ c u ls ls.length (headZ c u (kindOf ls) np nd s'.zs), s'.m + (3 + ls.length)⟩ (.tuple #[]))) := Lib.hid (fun w' s' g off cap n hn hG' hr hg => by
    subst hn
    exact ob_setHead (s := s') u np nd ls g off cap hG' hhN (by omega) (by omega) hr hg (by omega) hbN)
  have HTg := Lib.hid (fun w' s' (b : Nat) (hG' : G w' p c s') (hb : b < c.N) => ob_setTag (s := s') b 3 (u : Int) _ hG' hb r1 r2 r3 r4)
  have HG := Lib.hid hG
  have HIN : Hid (∀ k, inG p k → k < w.heap.size) := Lib.hid (fun k hk => hG.ofG_lt (Or.inr hk))
  have HBN := Lib.hid hbN
  have hlt2 : ¬ T < B := by rw [hT, hB]; simp; omega
  have hfd := cfield1 (c.N : Int) (c.W : Int) (c.R : Int) (c.K : Int)
  have HL2 : Hid (ls.length ≤ 256) := Lib.hid (by omega)
  have hw1 : IntKind.i64.wrap ((u : Int) + 1) = (u : Int) + 1 := IntWalk.i64_in _ (by omega)
  clear hG H he hbl hm q0 q1 q2 q3 q4 hlv hL hfi hnd hlt hhN hbN hSB r1 r2 r3 r4 hW hN hB hT
  go_enter Tryz.func15, Tryz.ntmps15
  have HT0 : Hid (Touch (inG p) w w) := Lib.hid (Touch.refl _ _)
  go_wp2_with fail
  refine (gconfC p c s _ HG.out).mono ?_
  rintro e wm1 ⟨rfl, hb⟩
  have HG1 := Lib.hid (HG.out.later hb)
  have HT1 : Hid (Touch (inG p) _ wm1) := Lib.hid (HT0.out.trans (Touch.of_below hb))
  clear hb
  go_wp2_with fail
  refine (HSB.out _).mono ?_
  rintro e wm2 ⟨rfl, hb⟩
  have HG2 := Lib.hid (HG1.out.later hb)
  have HT2 : Hid (Touch (inG p) _ wm2) := Lib.hid (HT1.out.trans (Touch.of_below hb))
  clear hb
  go_wp2_with fail
  refine (HLen.out _ HG2.out).mono ?_
  rintro e wm3 ⟨rfl, hG, hT⟩
  have HG3 := Lib.hid hG
  have HT3 : Hid (Touch (inG p) _ wm3) := Lib.hid (HT2.out.trans hT)
  clear hG hT
  clear hfd
  go_wp2_with fail
  refine (HTk.out _ HG3.out).mono ?_
  rintro e w4 ⟨g, cap, rfl, q1, q2, q3, q4, hG, hT⟩
  have HG4 := Lib.hid hG
  have HT4 := Lib.hid (HT3.out.trans hT)
  have hgG : ¬ inG p g := fun hx => by have h1 := HIN.out g hx; have h2 := HT3.out.size; omega
  have HR4 : Hid (Row w4 .i64 (some ⟨g, 1, none⟩) (ints ls)) := Lib.hid (fun i hi => by
    rw [ints_length] at hi
    obtain ⟨b, off, e, hlt, hc⟩ := q4 (i + 1) (by rw [ints_length]; simp; omega)
    cases e
    refine ⟨g, 1, rfl, hlt, ?_⟩
    rw [show 0 + (i + 1) = 1 + i by omega] at hc
    rw [hc, ints_nth (by simp; omega), ints_nth hi]
    simp)
  have hc0 : w4.cell? ⟨g, 0, none⟩ = some (.int .i64 (u : Int)) := by
    obtain ⟨b, off, e, hlt, hc⟩ := q4 0 (by rw [ints_length]; simp)
    cases e
    rw [show 0 + 0 = 0 from rfl] at hc
    rw [hc, ints_nth (by simp)]; rfl
  have HO : Hid (RowOut (inG p) (some ⟨g, 1, none⟩) (ints ls)) := Lib.hid (fun _ b off' e hx => by cases e; exact hgG hx)
  have HgG := Lib.hid hgG
  have q5 : ls.length + 1 ≤ cap := by simpa using q1
  rw [show (u :: ls).length = ls.length + 1 from rfl]
  have HGq := Lib.hid (fun n : Nat => HG4.out.drw ⟨n, rfl⟩)
  have HRq := Lib.hid (fun n : Nat => HR4.out.drewN n)
  have HTq := Lib.hid (fun n : Nat => HT4.out.drewN n)
  clear hG hT q4 hgG q1
  by_cases hcap : cap = 1
  · have hl0 : ls.length = 0 := by omega
    subst hcap
    have HR0 := Lib.hid (fun n : Nat => (show Row (w4.drewN n) .i64 (some ⟨g, 0, none⟩) (ints ls) from fun i hi => absurd hi (by rw [ints_length]; omega)))
    go_wp2_with fail
    go_quiet (fail)
    go_wp2_with fail
    refine (HHd.out _ _ g 0 _ _ hl0.symm (HGq.out _) (HR0.out _) HgG.out).mono ?_
    rintro e w5 ⟨rfl, hG, hT⟩
    have HG5 : Hid (G w5 p c ⟨madeZ c u ls np nd s.zs, s.m + madeM c ls pool u⟩) := Lib.hid (by
      rw [← HE.out, ← HM.out]
      rw [hl0] at hG ⊢
      exact hG.to rfl (by show s.m + 1 + D + (3 + 0) = _; omega))
    have HT5 := Lib.hid ((HTq.out _).trans hT)
    clear hG hT HGq HR0 HTq HG4 HT4 HR4 hc0 hlt2 HLen HTk HSB HHd HE HM
    go_wp2_with fail
    refine wp_loop_rounds 1 ?_
    rw [rounds_succ]
    go_wp2_with fail
    go_ret2
    exact ⟨rfl, HG5.out, HT5.out⟩
  have hc1 : ¬ cap - 1 = 0 := by omega
  clear hcap
  go_wp2_with fail
  go_quiet (fail)
  go_wp2_with fail
  refine (HHd.out _ _ g 1 _ _ rfl (HGq.out _) (HRq.out _) HgG.out).mono ?_
  rintro e w5 ⟨rfl, hG, hT⟩
  have HG5 : Hid (G w5 p c ⟨ownZ c u ls 0 (nameZ c u ls ls.length (headZ c u (kindOf ls) np nd Z)), s.m + (1 + D + (3 + ls.length) + 0)⟩) := Lib.hid (hG.to rfl (by show s.m + 1 + D + (3 + ls.length) = _; omega))
  have HT5 := Lib.hid ((HTq.out _).trans hT)
  have HR5 := Lib.hid ((HRq.out _).touch hT HO.out)
  clear hG hT HGq HRq HTq HG4 HT4 HR4 hc0 hlt2 HLen HTk HSB HHd
  generalize nameZ c u ls ls.length (headZ c u (kindOf ls) np nd Z) = Y at *
  go_wp2_with fail
  go_loopw [54] (fun i wr => ∃ k : Nat, k ≤ ls.length ∧ i = .int .i64 (k : Int) ∧ G wr p c ⟨ownZ c u ls k Y, s.m + (1 + D + (3 + ls.length) + k)⟩ ∧ Row wr .i64 (some ⟨g, 1, none⟩) (ints ls) ∧ Touch (inG p) w wr) (fun i _ => ls.length - (intOf i).toNat)
  case atStart => exact ⟨0, Nat.zero_le _, rfl, HG5.out, HR5.out, HT5.out⟩
  case round =>
    obtain ⟨k, hk, rfl, hG, hR, hT⟩ := hrel
    have HG6 := Lib.hid hG
    have HR6 := Lib.hid hR
    have HT6 := Lib.hid hT
    clear hG hR hT HG5 HR5 HT5
    by_cases hlt : k < ls.length
    · obtain ⟨b0, o0, e0, hlt0, hc0⟩ := HR6.out k (by rw [ints_length]; exact hlt)
      cases e0
      rw [ints_nth hlt] at hc0
      have HLb : Hid (ls[k] < c.N) := Lib.hid (HBN.out _ (List.getElem_mem hlt))
      have HNx : Hid (ownZ c u ls (k + 1) Y = (ownZ c u ls k Y).set (adr c ls[k] 0) (3 + 256 * (u : Int))) := Lib.hid (by
        show (ownZ c u ls k Y).set (adr c (ls.getD k 0) 0) (3 + 256 * (u : Int)) = _
        simp [List.getD, hlt])
      generalize ls[k] = b at *
      have HWk : Hid (wrap64 ((k : Int) + 1) = ((k + 1 : Nat) : Int)) := Lib.hid (by have := HL2.out; exact IntWalk.wrap64_in _ (by omega))
      go_wp2_with fail
      refine (HTg.out _ _ b HG6.out HLb.out).mono ?_
      rintro e w7 ⟨rfl, hG, hT⟩
      have HG7 : Hid (G w7 p c ⟨ownZ c u ls (k + 1) Y, s.m + (1 + D + (3 + ls.length) + (k + 1))⟩) := Lib.hid (by
        rw [HNx.out]; exact hG.to rfl rfl)
      have HT7 := Lib.hid (HT6.out.trans hT)
      have HR7 := Lib.hid (HR6.out.touch hT HO.out)
      clear hG hT
      go_wp2_with fail
      go_roundw
      case rel => exact ⟨k + 1, by omega, by rw [HWk.out], HG7.out, HR7.out, HT7.out⟩
      case measure => rw [HWk.out]; simp [intOf]; omega
    · have he : k = ls.length := by omega
      subst he
      go_wp2_with fail
      go_ret2
      exact ⟨rfl, by rw [← HE.out, ← HM.out]; exact HG6.out, HT6.out⟩
end
end Go.Proofs.YtmcgplblbdjaiaaGreat.Pk

/-
  Layer 11: Make that is refused; See.
-/
namespace Go.Proofs.YtmcgplblbdjaiaaGreat.Pk
open Go.RowKit
set_option linter.unusedVariables false
set_option linter.unusedSimpArgs false
set_option maxRecDepth 100000

section
variable {p : Pl} {c : Cf} {s : St} {w : World}
theorem ob_make_size (np nd : Int) (hG : G w p c s) (he : sizeE c.W np nd ≠ 0) :
    Calls Tryz.prog 15 #[.pointer (some ⟨p.a, 0, none⟩), .int .i64 np, .int .i64 nd] w (GP w p c s (.tuple #[.int .i64 0, .int .i64 (sizeE c.W np nd)])) := by
  have HSB := Lib.hid (shBlocks_any c.W np nd)
  generalize sizeE c.W np nd = E at *
  have hne : (E != 0) = true := by simpa using he
  have HG := Lib.hid hG
  have hfd := cfield1 (c.N : Int) (c.W : Int) (c.R : Int) (c.K : Int)
  clear hG he
  go_enter Tryz.func15, Tryz.ntmps15
  have HT0 : Hid (Touch (inG p) w w) := Lib.hid (Touch.refl _ _)
  go_wp2_with fail
  refine (gconfC p c s _ HG.out).mono ?_
  rintro e wm1 ⟨rfl, hb⟩
  have HG1 := Lib.hid (HG.out.later hb)
  have HT1 : Hid (Touch (inG p) _ wm1) := Lib.hid (HT0.out.trans (Touch.of_below hb))
  clear hb
  go_wp2_with fail
  refine (HSB.out _).mono ?_
  rintro e wm2 ⟨rfl, hb⟩
  have HG2 := Lib.hid (HG1.out.later hb)
  have HT2 : Hid (Touch (inG p) _ wm2) := Lib.hid (HT1.out.trans (Touch.of_below hb))
  clear hb
  go_wp2_with fail
  go_ret2
  exact ⟨rfl, HG2.out, HT2.out⟩
theorem ob_make_full (np nd : Int) (pool : List Nat) (hG : G w p c s) (hC : ChainAt c s.zs 0 pool) (he : sizeE c.W np nd = 0) (hl : (pool.length : Int) < blocksV c.W np nd) :
    Calls Tryz.prog 15 #[.pointer (some ⟨p.a, 0, none⟩), .int .i64 np, .int .i64 nd] w (GP w p c ⟨s.zs, s.m + 1⟩ (.tuple #[.int .i64 0, .int .i64 4])) := by
  have hSB := shBlocks_any c.W np nd
  rw [he] at hSB
  have HSB := Lib.hid hSB
  have HLen := Lib.hid (fun w' (hG' : G w' p c s) => pl_len p c s _ w' hG' hC)
  obtain ⟨B, hB⟩ : ∃ B : Int, B = blocksV c.W np nd := ⟨_, rfl⟩
  obtain ⟨T, hT⟩ : ∃ T : Int, T = (pool.length : Int) := ⟨_, rfl⟩
  rw [← hB] at HSB
  rw [← hT] at HLen
  have hlt : T < B := by rw [hT, hB]; exact hl
  have HG := Lib.hid hG
  have hfd := cfield1 (c.N : Int) (c.W : Int) (c.R : Int) (c.K : Int)
  clear hG he hl hC hSB hB hT
  go_enter Tryz.func15, Tryz.ntmps15
  have HT0 : Hid (Touch (inG p) w w) := Lib.hid (Touch.refl _ _)
  go_wp2_with fail
  refine (gconfC p c s _ HG.out).mono ?_
  rintro e wm1 ⟨rfl, hb⟩
  have HG1 := Lib.hid (HG.out.later hb)
  have HT1 : Hid (Touch (inG p) _ wm1) := Lib.hid (HT0.out.trans (Touch.of_below hb))
  clear hb
  go_wp2_with fail
  refine (HSB.out _).mono ?_
  rintro e wm2 ⟨rfl, hb⟩
  have HG2 := Lib.hid (HG1.out.later hb)
  have HT2 : Hid (Touch (inG p) _ wm2) := Lib.hid (HT1.out.trans (Touch.of_below hb))
  clear hb
  go_wp2_with fail
  refine (HLen.out _ HG2.out).mono ?_
  rintro e wm3 ⟨rfl, hG, hT⟩
  have HG3 := Lib.hid hG
  have HT3 : Hid (Touch (inG p) _ wm3) := Lib.hid (HT2.out.trans hT)
  clear hG hT
  go_wp2_with fail
  go_ret2
  exact ⟨rfl, HG3.out, HT3.out⟩

/-! ### See -/
theorem Blk.grown {w w' : World} {row : Option Nat} {b : Nat} {cs : Array Value} {t : TypeId} (h : Blk w b cs t) (hg : w.grownBy w' row) (hne : some b ≠ row) : Blk w' b cs t := (hg.block b h.lt hne).trans h
end
end Go.Proofs.YtmcgplblbdjaiaaGreat.Pk

/-
  Layer 11: the bundles of package obj.
-/
namespace Go.Proofs.YtmcgplblbdjaiaaGreat.Pk
open Go.RowKit
set_option linter.unusedVariables false
set_option linter.unusedSimpArgs false
set_option maxRecDepth 100000

theorem objFns : ObjFns where
  make_size := fun c zs a b hz he => ⟨0, 0, Nat.le_refl _, fun p m w hG => ob_make_size a b hG he⟩
  make_full := fun c zs pool os a b hz H he hl => ⟨1, 1, Nat.le_refl _, fun p m w hG => ob_make_full a b pool hG H.pl.ch he hl⟩
  make_yes := fun c zs h ls pool os a b hz H he hb => ⟨madeM c ls pool h, madeZ c h ls a b zs, ⟨madeM c ls pool h, Nat.le_refl _, fun p m w hG => by have e := ob_make_yes (s := ⟨zs, m⟩) h a b ls pool os hG H he hb; exact e⟩, made_ob hz.may hz.len H he hb⟩
  is_ := fun c zs pool os r hz H hr => by
    rw [← isB H hz.may hr]
    exact ⟨1 * askN (wordA c (prev r) 0), by have := askN_le (wordA c (prev r) 0); omega, fun p m w hG => ob_is hG r⟩
/-! ### Of a nil ground -/
theorem isHead_nil (k : FuncId) (hk : ∀ (b v : Int) (w : World), Calls Tryz.prog k #[.pointer none, .int .i64 b, .int .i64 v] w fun e w' => e = .returned (.int .u32 0) ∧ w = w') (hent : ∀ (args : Array Value) (w : World), (callFunc k args).run Tryz.prog w = .ok (.enter k args) w) (b : Int) (w : World) :
    Calls Tryz.prog 128 #[.func (.func k) #[.pointer none] #[], .int .i64 b] w fun e w' => e = .returned (.bool false) ∧ Below w.heap.size w w' := by
  have hfd := pl_field0
  have k1 : (uK 0 == 1) = false := by decide
  have k2 : (uK 0 == 2) = false := by decide
  have HK := Lib.hid (hk b 0)
  clear hk
  go_enter Tryz.func128, Tryz.ntmps128
  go_wp2_with fail
  refine (HK.out _).mono ?_
  rintro e w1 ⟨rfl, rfl⟩
  go_wp2_with fail
  refine (tunpack_any 0 _ (by omega) (by omega)).mono ?_
  rintro e w1 ⟨rfl, hb⟩
  have HB := Lib.hid hb
  clear hb
  go_wp2_with fail
  go_ret
  exact ⟨rfl, HB.out⟩
theorem is_nil (r : Int) (w : World) : Calls Tryz.prog 97 #[.pointer none, .int .i64 r] w fun e w' => e = .returned (.bool false) ∧ Below w.heap.size w w' := by
  have hmf : ∀ (fn : Fn) (first cap : Array Value) (w : World), (Instr.makeFunc fn first cap).run Tryz.prog w = .ok (.func fn first cap) w := fun _ _ _ _ => rfl
  go_enter Tryz.func97, Tryz.ntmps97
  go_wp2_with fail
  refine (isHead_nil _ word_nil (fun _ _ => rfl) _ _).mono ?_
  rintro e w1 ⟨rfl, hb⟩
  have HB := Lib.hid hb
  clear hb
  go_wp2_with fail
  go_ret
  exact ⟨rfl, HB.out⟩
end Go.Proofs.YtmcgplblbdjaiaaGreat.Pk
