/-
  Layer 11: package obj's functions that are handed the function by which a word is got.
-/
import Derived.Test.YtgmbamehmecnlaaMakeMath
import Derived.Test.YtgmbamehmecnlaaTagI
import Derived.Test.YtgmbamehmecnlaaTagFn
import Derived.Test.YtgmbamehmecnlaaShape2
import Derived.Test.YtgmbamehmecnlaaPoolFn
namespace Go.Proofs.Ytgmbamehmecnlaa.Pk
open Go.RowKit
set_option linter.unusedVariables false
set_option linter.unusedSimpArgs false
set_option maxRecDepth 100000

/-- What a call leaves that looks at words. -/
def LP (R : World → World → Prop) (w : World) (p : Pl) (c : Cf) (s : St) (v : Value) (e : Ending) (w' : World) : Prop := e = .returned v ∧ G w' p c s ∧ R w w'
/-- The function k gets words, with d accesses each; R: what it does to the memory. -/
structure RdF (p : Pl) (c : Cf) (k : FuncId) (d : Nat) (R : World → World → Prop) : Prop where
  refl : ∀ w, R w w
  trans : ∀ {a b e : World}, R a b → R b e → R a e
  below : ∀ {w w' : World}, Below w.heap.size w w' → R w w'
  touch : ∀ {w w' : World}, R w w' → Touch (inG p) w w'
  set : ∀ {w w' : World} {q : Addr}, R w w' → w.heap.size ≤ q.block → ∀ v, R w (w'.setCell q v)
  ent : ∀ (args : Array Value) (w : World), (callFunc k args).run Try.prog w = .ok (.enter k args) w
  rd : ∀ (s : St) (b v y : Int) (w : World), G w p c s → (⟨s.zs, 0⟩ : St).at? (wordA c b v) = y → Calls Try.prog k #[.pointer (some ⟨p.a, 0, none⟩), .int .i64 b, .int .i64 v] w (LP R w p c ⟨s.zs, s.m + d * askN (wordA c b v)⟩ (.int .u32 y))
theorem rdWord (p : Pl) (c : Cf) : RdF p c 55 1 (Touch (inG p)) where
  refl := fun w => Touch.refl _ w
  trans := fun h k => h.trans k
  below := fun h => Touch.of_below h
  touch := fun h => h
  set := fun h hq v => h.setCell (fun hlt => absurd hlt (Nat.not_lt.2 hq)) v
  ent := fun args w => rfl
  rd := fun s b v y w hG hy => by
    subst hy
    have h := word_any p c s b v w hG
    rw [s.ask_eq, ← Nat.one_mul (askN _)] at h
    exact h
theorem rdSee (p : Pl) (c : Cf) : RdF p c 51 0 (fun w w' => Below w.heap.size w w') where
  refl := fun w => Below.refl _ w
  trans := fun h k => below_step h k
  below := fun h => h
  touch := fun h => Touch.of_below h
  set := fun h hq v => h.setCell hq v
  ent := fun args w => rfl
  rd := fun s b v y w hG hy => by
    subst hy
    refine (seeword_any p c s b v w hG).mono ?_
    rintro e w' ⟨rfl, hd⟩
    exact ⟨rfl, (hG.later hd.new).to rfl (by simp), hd.new⟩

section
variable {p : Pl} {c : Cf} {k : FuncId} {d : Nat} {R : World → World → Prop}
theorem RdF.rdW (L : RdF p c k d R) (s : St) (b v : Nat) (x z y : Int) (w : World) (hG : G w p c s) (hb : b < c.N) (hv : v < c.W) (hx : x = (b : Int)) (hz : z = (v : Int)) (hy : nth s.zs (adr c b v) = y) :
    Calls Try.prog k #[.pointer (some ⟨p.a, 0, none⟩), .int .i64 x, .int .i64 z] w (LP R w p c ⟨s.zs, s.m + d⟩ (.int .u32 y)) := by
  subst hx hz hy
  have h := L.rd s (b : Int) (v : Int) _ w hG rfl
  rw [adr_word hb hv] at h
  rw [show s.m + d * askN (some (adr c b v)) = s.m + d by simp [askN]] at h
  exact h
/-- Is it an object's head's tag? -/
def headB (t : Int) : Bool := uK t == 1 || uK t == 2
theorem headB_yes {t : Int} (h : HeadT t) : headB t = true := by unfold headB; rcases h with h | h <;> simp [h]
theorem headB_no {t : Int} (h : ¬ HeadT t) : headB t = false := by
  unfold headB HeadT at *
  have h1 : ¬ uK t = 1 := fun e => h (.inl e)
  have h2 : ¬ uK t = 2 := fun e => h (.inr e)
  simp [h1, h2]

theorem ob_isHead (L : RdF p c k d R) (s : St) (b t : Int) (w : World) (hG : G w p c s) (ht : tagI c s.zs b = t) :
    Calls Try.prog 76 #[.func (.func k) #[.pointer (some ⟨p.a, 0, none⟩)] #[], .int .i64 b] w (LP R w p c ⟨s.zs, s.m + d * askN (wordA c b 0)⟩ (.bool (headB t))) := by
  have H := Lib.hid (L.rd s b 0 t w hG ht)
  have hbd := tagI_bd hG b
  rw [ht] at hbd
  have hfd := pl_field0
  have HL := Lib.hid L
  have hent := L.ent
  obtain ⟨k1, e1⟩ : ∃ x, (uK t == 1) = x := ⟨_, rfl⟩
  obtain ⟨k2, e2⟩ : ∃ x, (uK t == 2) = x := ⟨_, rfl⟩
  have E : Hid (headB t = (k1 || k2)) := Lib.hid (by unfold headB; rw [e1, e2])
  clear hG ht L
  cases k1 <;> cases k2
  all_goals
    go_enter Try.func76, Try.ntmps76
    go_wp2_with fail
    refine H.out.mono ?_
    rintro e w1 ⟨rfl, hG, hR⟩
    have HG := Lib.hid hG
    have HR := Lib.hid hR
    clear hG hR
    go_wp2_with fail
    refine (tunpack_any t _ hbd.1 hbd.2).mono ?_
    rintro e w2 ⟨rfl, hb⟩
    have HB := Lib.hid hb
    clear hb
    go_wp2_with fail
    go_ret
    exact ⟨by rw [E.out]; rfl, HG.out.later HB.out, HL.out.trans HR.out (HL.out.below HB.out)⟩

/-- Where a head is. -/
theorem ob_lensOf_yes (L : RdF p c k d R) (s : St) (b np nd : Nat) (x : Int) (w : World) (hG : G w p c s) (hx : x = (b : Int)) (hb : b < c.N) (hk : HeadT (nth s.zs (adr c b 0))) (h1 : nth s.zs (adr c b 1) = (np : Int)) (h2 : nth s.zs (adr c b 2) = (nd : Int)) :
    Calls Try.prog 50 #[.func (.func k) #[.pointer (some ⟨p.a, 0, none⟩)] #[], .int .i64 x] w (LP R w p c ⟨s.zs, s.m + d * 3⟩ (.tuple #[.agg #[.int .i64 (np : Int), .int .i64 (nd : Int)], .bool true])) := by
  subst hx
  have hW := hG.may.w
  have W1 : Hid (1 < c.W) := Lib.hid (by omega)
  have W2 : Hid (2 < c.W) := Lib.hid (by omega)
  have b1 := hG.wf (adr c b 1)
  have b2 := hG.wf (adr c b 2)
  rw [h1] at b1
  rw [h2] at b2
  have H1 := Lib.hid h1
  have H2 := Lib.hid h2
  have HL := Lib.hid L
  have hent := L.ent
  have HI : Hid (∀ w', G w' p c s → Calls Try.prog 76 #[.func (.func k) #[.pointer (some ⟨p.a, 0, none⟩)] #[], .int .i64 (b : Int)] w' (LP R w' p c ⟨s.zs, s.m + d⟩ (.bool true))) := Lib.hid (fun w' hG' => by
    have h := ob_isHead L s (b : Int) (nth s.zs (adr c b 0)) w' hG' (tagI_in hG.may hb)
    rw [headB_yes hk, show wordA c (b : Int) 0 = some (adr c b 0) from adr_word hb (v := 0) (by omega)] at h
    rw [show s.m + d * askN (some (adr c b 0)) = s.m + d by simp [askN]] at h
    exact h)
  have HG0 := Lib.hid (hG.alloc (.cells #[.int .i64 0, .int .i64 0] 75))
  have BR := Lib.hid (Blk.new w #[.int .i64 0, .int .i64 0] 75)
  have HR0 : Hid (R w (w.alloc (.cells #[.int .i64 0, .int .i64 0] 75))) := Lib.hid (L.below (below_new w _))
  have NO : Hid (∀ i, w.heap.size ≤ i → ¬ ofG p i) := Lib.hid (fun i hi hx => by have := hG.ofG_lt hx; omega)
  have NG : Hid (∀ i, w.heap.size ≤ i → ¬ inG p i) := Lib.hid (fun i hi hx => NO.out i hi (Or.inr hx))
  have HS0 : Hid (w.heap.size < (w.alloc (.cells #[.int .i64 0, .int .i64 0] 75)).heap.size) := Lib.hid (by simp)
  clear hG h1 h2 hk L
  go_enter Try.func50, Try.ntmps50
  go_wp2_with fail
  generalize w.alloc (.cells #[.int .i64 0, .int .i64 0] 75) = w0 at *
  refine (HI.out _ HG0.out).mono ?_
  rintro e w1 ⟨rfl, hG, hR⟩
  have HG1 := Lib.hid (hG.alloc (.cells #[.int .i64 0, .int .i64 0] 75))
  have BR1 := Lib.hid ((BR.out.touch (HL.out.touch hR) (NG.out _ (Nat.le_refl _))).alloc (.cells #[.int .i64 0, .int .i64 0] 75))
  have BN1 := Lib.hid (Blk.new w1 #[.int .i64 0, .int .i64 0] 75)
  have hs1 : w.heap.size < w1.heap.size := Nat.lt_of_lt_of_le HS0.out (HL.out.touch hR).size
  have HR1 : Hid (R w (w1.alloc (.cells #[.int .i64 0, .int .i64 0] 75))) := Lib.hid (HL.out.trans HR0.out (HL.out.trans hR (HL.out.below (below_new w1 _))))
  clear hG hR HG0 BR HR0
  go_wp2_with fail
  generalize hn : w1.heap.size = n at *
  generalize w1.alloc (.cells #[.int .i64 0, .int .i64 0] 75) = v1 at *
  refine wp_loop_rounds 3 ?_
  rw [rounds_succ]
  go_wp2_with fail
  refine (HL.out.rdW _ b 1 _ _ _ _ HG1.out hb W1.out rfl rfl H1.out).mono ?_
  rintro e w2 ⟨rfl, hG, hR⟩
  have HG2 := Lib.hid hG
  have BR2 := Lib.hid (BR1.out.touch (HL.out.touch hR) (NG.out _ (Nat.le_refl _)))
  have BN2 := Lib.hid (BN1.out.touch (HL.out.touch hR) (NG.out _ (Nat.le_of_lt hs1)))
  have HR2 := Lib.hid (HL.out.trans HR1.out hR)
  clear hG hR HG1 BR1 BN1 HR1
  have cn := BN2.out.cell 0 rfl
  have fn := BN2.out.free 0
  go_wp2_with fail
  have TQ : Hid (Touch (fun i => i = n) w2 (w2.setCell ⟨n, 0, none⟩ (.int .i64 (np : Int)))) := Lib.hid ((Touch.refl (fun i => i = n) w2).setCell (p := ⟨n, 0, none⟩) (fun _ => rfl) _)
  have HG3 := Lib.hid (HG2.out.touch TQ.out (fun i hi e => NO.out i (by omega) hi))
  have BR3 := Lib.hid (BR2.out.other (p := ⟨n, 0, none⟩) (by show n ≠ w.heap.size; omega) (.int .i64 (np : Int)))
  have BN3 := Lib.hid (BN2.out.put (cs' := #[.int .i64 (np : Int), .int .i64 0]) 0 (.int .i64 (np : Int)) rfl)
  have HR3 := Lib.hid (HL.out.set HR2.out (q := ⟨n, 0, none⟩) (Nat.le_of_lt hs1) (.int .i64 (np : Int)))
  clear HG2 BR2 BN2 HR2 TQ cn fn
  generalize w2.setCell ⟨n, 0, none⟩ (.int .i64 (np : Int)) = v2 at *
  rw [rounds_succ]
  go_wp2_with fail
  refine (HL.out.rdW _ b 2 _ _ _ _ HG3.out hb W2.out rfl rfl H2.out).mono ?_
  rintro e w4 ⟨rfl, hG, hR⟩
  have HG4 := Lib.hid hG
  have BR4 := Lib.hid (BR3.out.touch (HL.out.touch hR) (NG.out _ (Nat.le_refl _)))
  have BN4 := Lib.hid (BN3.out.touch (HL.out.touch hR) (NG.out _ (Nat.le_of_lt hs1)))
  have HR4 := Lib.hid (HL.out.trans HR3.out hR)
  clear hG hR HG3 BR3 BN3 HR3
  have cn := BN4.out.cell 1 rfl
  have fn := BN4.out.free 1
  go_wp2_with fail
  have TQ : Hid (Touch (fun i => i = n) w4 (w4.setCell ⟨n, 1, none⟩ (.int .i64 (nd : Int)))) := Lib.hid ((Touch.refl (fun i => i = n) w4).setCell (p := ⟨n, 1, none⟩) (fun _ => rfl) _)
  have HG5 := Lib.hid (HG4.out.touch TQ.out (fun i hi e => NO.out i (by omega) hi))
  have BR5 := Lib.hid (BR4.out.other (p := ⟨n, 1, none⟩) (by show n ≠ w.heap.size; omega) (.int .i64 (nd : Int)))
  have BN5 := Lib.hid (BN4.out.put (cs' := #[.int .i64 (np : Int), .int .i64 (nd : Int)]) 1 (.int .i64 (nd : Int)) rfl)
  have HR5 := Lib.hid (HL.out.set HR4.out (q := ⟨n, 1, none⟩) (Nat.le_of_lt hs1) (.int .i64 (nd : Int)))
  clear HG4 BR4 BN4 HR4 TQ cn fn
  generalize w4.setCell ⟨n, 1, none⟩ (.int .i64 (nd : Int)) = v4 at *
  rw [rounds_succ]
  have c0 := BN5.out.cell 0 rfl
  have c1 := BN5.out.cell 1 rfl
  have r0 := BR5.out.cell 0 rfl
  have r1 := BR5.out.cell 1 rfl
  have f0 := BR5.out.free 0
  have f1 := BR5.out.free 1
  go_wp2_with fail
  exact bodyPost_ret (v := .tuple #[.agg #[.int .i64 (np : Int), .int .i64 (nd : Int)], .bool true]) (by simp [results, Try.results50, go_sem, r0, r1]) rfl ⟨rfl, by
    have T2 : Touch (fun i => w.heap.size ≤ i) v4 ((v4.setCell ⟨w.heap.size, 0, none⟩ (.int .i64 (np : Int))).setCell ⟨w.heap.size, 1, none⟩ (.int .i64 (nd : Int))) := ((Touch.refl _ v4).setCell (p := ⟨w.heap.size, 0, none⟩) (fun _ => Nat.le_refl _) _).setCell (p := ⟨w.heap.size, 1, none⟩) (fun _ => Nat.le_refl _) _
    exact (HG5.out.touch T2 (fun i hi e => NO.out i e hi)).to rfl (by show s.m + d + d + d = s.m + d * 3; omega), HL.out.set (HL.out.set HR5.out (q := ⟨w.heap.size, 0, none⟩) (Nat.le_refl _) _) (q := ⟨w.heap.size, 1, none⟩) (Nat.le_refl _) _⟩

/-- .. and where none is. -/
theorem ob_lensOf_no (L : RdF p c k d R) (s : St) (x t : Int) (w : World) (hG : G w p c s) (ht : tagI c s.zs x = t) (hk : ¬ HeadT t) :
    Calls Try.prog 50 #[.func (.func k) #[.pointer (some ⟨p.a, 0, none⟩)] #[], .int .i64 x] w (LP R w p c ⟨s.zs, s.m + d * askN (wordA c x 0)⟩ (.tuple #[.agg #[.int .i64 0, .int .i64 0], .bool false])) := by
  have HL := Lib.hid L
  have hent := L.ent
  have HI : Hid (∀ w', G w' p c s → Calls Try.prog 76 #[.func (.func k) #[.pointer (some ⟨p.a, 0, none⟩)] #[], .int .i64 x] w' (LP R w' p c ⟨s.zs, s.m + d * askN (wordA c x 0)⟩ (.bool false))) := Lib.hid (fun w' hG' => by
    have h := ob_isHead L s x t w' hG' ht
    rw [headB_no hk] at h
    exact h)
  have HG0 := Lib.hid (hG.alloc (.cells #[.int .i64 0, .int .i64 0] 75))
  have BR := Lib.hid (Blk.new w #[.int .i64 0, .int .i64 0] 75)
  have HR0 : Hid (R w (w.alloc (.cells #[.int .i64 0, .int .i64 0] 75))) := Lib.hid (L.below (below_new w _))
  have NO : Hid (∀ i, w.heap.size ≤ i → ¬ ofG p i) := Lib.hid (fun i hi hx => by have := hG.ofG_lt hx; omega)
  clear hG ht hk L
  go_enter Try.func50, Try.ntmps50
  go_wp2_with fail
  generalize w.alloc (.cells #[.int .i64 0, .int .i64 0] 75) = w0 at *
  refine (HI.out _ HG0.out).mono ?_
  rintro e w1 ⟨rfl, hG, hR⟩
  have HG1 := Lib.hid hG
  have BR1 := Lib.hid (BR.out.touch (HL.out.touch hR) (fun hx => NO.out _ (Nat.le_refl _) (Or.inr hx)))
  have HR1 := Lib.hid (HL.out.trans HR0.out hR)
  clear hG hR HG0 BR HR0
  have f0 := BR1.out.free 0
  have f1 := BR1.out.free 1
  have r0 := BR1.out.cell 0 rfl
  have r1 := BR1.out.cell 1 rfl
  go_wp2_with fail
  exact bodyPost_ret (v := .tuple #[.agg #[.int .i64 0, .int .i64 0], .bool false]) (by simp [results, Try.results50, go_sem, r0, r1]) rfl ⟨rfl, by
    have T2 : Touch (fun i => w.heap.size ≤ i) w1 ((w1.setCell ⟨w.heap.size, 0, none⟩ (.int .i64 0)).setCell ⟨w.heap.size, 1, none⟩ (.int .i64 0)) := ((Touch.refl _ w1).setCell (p := ⟨w.heap.size, 0, none⟩) (fun _ => Nat.le_refl _) _).setCell (p := ⟨w.heap.size, 1, none⟩) (fun _ => Nat.le_refl _) _
    exact HG1.out.touch T2 (fun i hi e => NO.out i e hi), HL.out.set (HL.out.set HR1.out (q := ⟨w.heap.size, 0, none⟩) (Nat.le_refl _) _) (q := ⟨w.heap.size, 1, none⟩) (Nat.le_refl _) _⟩

/-! ### Leaves and places -/
theorem ob_leafOf (L : RdF p c k d R) (s : St) (h j n : Nat) (x z : Int) (w : World) (hG : G w p c s) (hx : x = (h : Int)) (hz : z = (j : Int)) (hh : h < c.N) (hj : 8 + j < c.W) (hn : nth s.zs (adr c h (8 + j)) = (n : Int)) :
    Calls Try.prog 77 #[.func (.func k) #[.pointer (some ⟨p.a, 0, none⟩)] #[], .int .i64 x, .int .i64 z] w (LP R w p c ⟨s.zs, s.m + d⟩ (if n = 0 then .tuple #[.int .i64 0, .bool false] else .tuple #[.int .i64 ((n : Int) - 1), .bool true])) := by
  subst hx hz
  have hW := hG.may.w
  have H := Lib.hid (L.rdW s h (8 + j) (h : Int) (8 + (j : Int)) (n : Int) w hG hh hj rfl (by omega) hn)
  have hbd := hG.wf (adr c h (8 + j))
  rw [hn] at hbd
  have hent := L.ent
  clear hG hn L
  by_cases h0 : n = 0
  · subst h0
    rw [if_pos rfl]
    go_enter Try.func77, Try.ntmps77
    go_wp2_with fail
    refine H.out.mono ?_
    rintro e w1 ⟨rfl, hG, hR⟩
    have HG := Lib.hid hG
    have HR := Lib.hid hR
    clear hG hR
    go_wp2_with fail
    go_ret2
    exact ⟨rfl, HG.out, HR.out⟩
  · rw [if_neg h0]
    have hne : ((n : Int) == 0) = false := bne_of (by omega)
    go_enter Try.func77, Try.ntmps77
    go_wp2_with fail
    refine H.out.mono ?_
    rintro e w1 ⟨rfl, hG, hR⟩
    have HG := Lib.hid hG
    have HR := Lib.hid hR
    clear hG hR
    go_wp2_with fail
    go_ret2
    exact ⟨rfl, HG.out, HR.out⟩

/-- How many accesses tell a field's place. -/
def plD (c : Cf) (o : Ob) : Nat := if o.f ≤ c.W - 8 then 0 else 1
theorem plD_le (c : Cf) (o : Ob) : plD c o ≤ 1 := by unfold plD; split <;> omega
def plV (q : Option (Nat × Nat)) : Value := match q with
  | some q => .tuple #[.int .i64 (q.1 : Int), .int .i64 (q.2 : Int), .bool true]
  | none => .tuple #[.int .i64 0, .int .i64 0, .bool false]
theorem ob_place (L : RdF p c k d R) (s : St) (o : Ob) (i : Nat) (w : World) (hG : G w p c s) (hA : ObjAt c s.zs o) (hi : i < o.f) :
    Calls Try.prog 53 #[.func (.func k) #[.pointer (some ⟨p.a, 0, none⟩)] #[], .int .i64 (c.W : Int), .int .i64 (o.h : Int), .int .i64 (o.f : Int), .int .i64 (i : Int)] w (LP R w p c ⟨s.zs, s.m + d * plD c o⟩ (plV (fieldP c o i))) := by
  have hW := hG.may.w
  have hf := hA.size
  have hp : placeE c.W o.f i = 0 := placeE_mk (wrongE_mk (by omega) (by omega) (by omega) hf) (by omega) (by omega)
  have HP := Lib.hid (shPlace_any c.W o.f i w)
  unfold PlacePost at HP
  have HL := Lib.hid L
  have HG := Lib.hid hG
  by_cases hs : o.f ≤ c.W - 8
  · obtain ⟨q1, q2⟩ := place_small hp (by omega)
    rw [q1, q2, hp] at HP
    rw [fieldP_small hs, show plD c o = 0 by unfold plD; rw [if_pos hs]]
    show Calls _ _ _ _ (LP R w p c ⟨s.zs, s.m⟩ (.tuple #[.int .i64 (o.h : Int), .int .i64 ((8 + i : Nat) : Int), .bool true]))
    have e8 : ((8 + i : Nat) : Int) = 8 + (i : Int) := by omega
    rw [e8]
    clear hG hA L hp q1 q2
    go_enter Try.func53, Try.ntmps53
    go_wp2_with fail
    refine HP.out.mono ?_
    rintro e w1 ⟨rfl, hb⟩
    have HB := Lib.hid hb
    clear hb
    go_wp2_with fail
    go_ret3
    exact ⟨rfl, HG.out.later HB.out, HL.out.below HB.out⟩
  · obtain ⟨q1, q2⟩ := place_big hp (by omega)
    rw [q1, q2, hp] at HP
    have hpl := hA.place hG.may hs hi
    have hlW := hA.lvW hG.may
    have hown := hA.own _ hpl
    have eq1 : (i : Int) / ((c.W : Int) - 1) = ((i / (c.W - 1) : Nat) : Int) := by rw [show ((c.W : Int) - 1) = ((c.W - 1 : Nat) : Int) by omega]; exact (Int.natCast_ediv _ _).symm
    have eq2 : 1 + (i : Int) % ((c.W : Int) - 1) = ((1 + i % (c.W - 1) : Nat) : Int) := by
      have e : (i : Int) % ((c.W : Int) - 1) = ((i % (c.W - 1) : Nat) : Int) := by rw [show ((c.W : Int) - 1) = ((c.W - 1 : Nat) : Int) by omega]; exact (Int.natCast_emod _ _).symm
      omega
    rw [eq1, eq2] at HP
    rw [show plD c o = 1 by unfold plD; rw [if_neg hs], Nat.mul_one]
    have hg : o.lv[i / (c.W - 1)]? = some o.lv[i / (c.W - 1)] := List.getElem?_eq_getElem hpl
    generalize o.lv[i / (c.W - 1)] = n at *
    have HLf := Lib.hid (fun w' hG' => ob_leafOf L s o.h (i / (c.W - 1)) n (o.h : Int) _ w' hG' rfl rfl hA.hlt (by omega) hown)
    have hsm : ¬ (((i / (c.W - 1) : Nat) : Int) = -1) := fun e => by have h0 := Int.natCast_nonneg (i / (c.W - 1)); rw [e] at h0; exact absurd h0 (by decide)
    have hne := bne_of hsm
    by_cases h0 : n = 0
    · subst h0
      rw [fieldP_shed hs hg]
      simp only [if_true] at HLf
      show Calls _ _ _ _ (LP R w p c ⟨s.zs, s.m + d⟩ (.tuple #[.int .i64 0, .int .i64 0, .bool false]))
      generalize i / (c.W - 1) = lf at *
      generalize 1 + i % (c.W - 1) = at_ at *
      clear hG hA L hp q1 q2 eq1 eq2 hown hg hpl
      go_enter Try.func53, Try.ntmps53
      go_wp2_with fail
      refine HP.out.mono ?_
      rintro e w1 ⟨rfl, hb⟩
      have HB := Lib.hid hb
      clear hb
      go_wp2_with fail
      refine (HLf.out w1 (HG.out.later HB.out)).mono ?_
      rintro e w2 ⟨rfl, hG, hR⟩
      have HG2 := Lib.hid hG
      have HR2 := Lib.hid (HL.out.trans (HL.out.below HB.out) hR)
      clear hG hR
      go_wp2_with fail
      go_ret3
      exact ⟨rfl, HG2.out, HR2.out⟩
    · obtain ⟨b, rfl⟩ : ∃ b, n = b + 1 := ⟨n - 1, by omega⟩
      rw [fieldP_big hs hg]
      simp only [Nat.add_eq_zero_iff, Nat.one_ne_zero, and_false, if_false] at HLf
      rw [show (((b + 1 : Nat) : Int) - 1) = (b : Int) by omega] at HLf
      show Calls _ _ _ _ (LP R w p c ⟨s.zs, s.m + d⟩ (.tuple #[.int .i64 (b : Int), .int .i64 ((1 + i % (c.W - 1) : Nat) : Int), .bool true]))
      generalize i / (c.W - 1) = lf at *
      generalize 1 + i % (c.W - 1) = at_ at *
      clear hG hA L hp q1 q2 eq1 eq2 hown hg hpl
      go_enter Try.func53, Try.ntmps53
      go_wp2_with fail
      refine HP.out.mono ?_
      rintro e w1 ⟨rfl, hb⟩
      have HB := Lib.hid hb
      clear hb
      go_wp2_with fail
      refine (HLf.out w1 (HG.out.later HB.out)).mono ?_
      rintro e w2 ⟨rfl, hG, hR⟩
      have HG2 := Lib.hid hG
      have HR2 := Lib.hid (HL.out.trans (HL.out.below HB.out) hR)
      clear hG hR
      go_wp2_with fail
      go_ret3
      exact ⟨rfl, HG2.out, HR2.out⟩

end
end Go.Proofs.Ytgmbamehmecnlaa.Pk
