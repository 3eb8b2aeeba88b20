/-
  Stage 12's law of the whole: objects in the ring, counted, with their fields, each without the other (of packages pool, obj, ring and count that do what they must).
-/
import Derived.Test.YtgmbamehmecnlaaCountLaw
import Derived.Test.YtgmbamehmecnlaaHeapRing
import Derived.Test.YtgmbamehmecnlaaRing
import Derived.Test.YtgmbamehmecnlaaObjWholeF
namespace Go.Proofs.Ytgmbamehmecnlaa.Pk
open Go.RowKit
set_option linter.unusedVariables false
set_option linter.unusedSimpArgs false

/-- A new ground's pool is opened. -/
theorem open_step (F : PoolFns) {w w1 : World} {p : Pl} {c : Cf} (hm : c.May) (hG : G w1 p c ⟨List.replicate c.size 0, 0⟩) (hp : ∀ k, inG p k → w.heap.size ≤ k) (hb : Below w.heap.size w w1) :
    Calls Try.prog 21 #[.pointer (some ⟨p.a, 0, none⟩)] w1 fun e w' => ∃ zo, e = .returned (.bool true) ∧ HSt w p c zo (List.range c.N) [] w' ∧ Fresh c zo [] ∧ Touch (inG p) w1 w' := by
  obtain ⟨zo, ⟨d, _, H⟩, hOp⟩ := F.open_yes c hm
  refine (H p 0 w1 hG).mono ?_
  rintro e w' ⟨rfl, hG', hT⟩
  exact ⟨zo, rfl, ⟨_, hG', hOp.heap, hp, hb.trans (hT.below hp hb.size)⟩, hOp.fresh, hT⟩

set_option maxRecDepth 100000 in
set_option maxHeartbeats 1000000 in
theorem awakeRow_any (F : PoolFns) (O : ObjFns) (R : RingFns) (w : World) : Calls Try.prog 19 #[] w fun e w' => e = .returned (.bool true) ∧ Below w.heap.size w w' := by
  have HM : Hid (cfR 2).May := Lib.hid (cfR_may (by decide) (by decide))
  go_enter Try.func19, Try.ntmps19
  go_wp2_with fail
  refine (newR 2 (by decide) (by decide) _).mono ?_
  rintro e w1 ⟨p, rfl, hG, hp, hb⟩
  have HG := Lib.hid hG
  have HP : Hid (∀ k, inG p k → w.heap.size ≤ k) := Lib.hid (fun k hk => hp k (Or.inr hk))
  have HB := Lib.hid hb
  clear hG hp hb
  go_wp2_with fail
  refine (open_step F HM.out HG.out HP.out HB.out).mono ?_
  rintro e w2 ⟨z0, rfl, h0, hf, _⟩
  have H0 := Lib.hid h0
  have HF0 := Lib.hid hf
  obtain ⟨B1, z1, A1, M1⟩ := O.make_yes (cfR 2) z0 0 [] [1] [] 1 0 h0.wz h0.heap (by decide) (by decide)
  have HA1 := Lib.hid A1
  have HM1 := Lib.hid M1
  clear h0 hf A1 M1
  go_wp2_with fail
  refine (H0.out.act HA1.out HM1.out.heap).mono ?_
  rintro e w3 ⟨rfl, h1, _⟩
  have H1 := Lib.hid h1
  have HF1 := Lib.hid (HM1.out.fresh HF0.out HM.out)
  have hr := HF1.out.ring h1.heap HM.out
  have hk := h1.heap.ringAdd hr HM.out h1.wz.len (o := newOb 0 1 0 []) (by simp) (by simp)
  have A2 := R.add_yes (cfR 2) z1 [] 0 h1.wz hr (by decide) (by simp) (h1.heap.obs (newOb 0 1 0 []) (by simp)).head
  have HA2 := Lib.hid A2
  have HR2 := Lib.hid hk.1
  have HH2 := Lib.hid (h1.heap.heads HM.out hk.2.1).1
  clear h1 hr hk A2
  go_wp2_with fail
  refine (H1.out.act HA2.out HH2.out).mono ?_
  rintro e w4 ⟨rfl, h2, _⟩
  have H2 := Lib.hid h2
  have A3 := R.has (cfR 2) _ _ 0 h2.wz HR2.out
  rw [show hasB (ints ([] ++ [(newOb 0 1 0 []).h])) 0 = true by decide] at A3
  have HA3 := Lib.hid A3
  have HA4 := Lib.hid (F.len (cfR 2) _ _ h2.wz h2.heap.pl.ch)
  clear h2 A3
  go_wp2_with fail
  refine (H2.out.act0 HA3.out).mono ?_
  rintro e w5 ⟨rfl, h3, _⟩
  have H3 := Lib.hid h3
  clear h3
  go_wp2_with fail
  refine (H3.out.act0 HA4.out).mono ?_
  rintro e w6 ⟨rfl, h4, _⟩
  have HB6 := Lib.hid h4.below
  clear h4
  go_wp2_with fail
  go_ret
  exact ⟨rfl, HB6.out⟩

/-- What is known while objects are made. -/
def Mk (w : World) (lo : Nat) (p : Pl) (os : List Ob) (v n : Value) (wr : World) : Prop :=
  ∃ zs pool, HSt w p (cfR 60) zs pool os wr ∧ Fresh (cfR 60) zs os ∧ wr.ownsRow lo 3 1 v os.length ((os.map (fun o => (o.h : Int) + 1)).map (Value.int .i64)) ∧ n = .int .i64 (60 - (pool.length : Int)) ∧ lo ≤ wr.heap.size
theorem setptr_any (O : ObjFns) {w wr : World} {p : Pl} {c : Cf} {zs : List Int} {pool : List Nat} {os : List Ob} {o : Ob} (h : HSt w p c zs pool os wr) (hf : Fresh c zs os) (hm : c.May) (ho : o ∈ os) :
    Calls Try.prog 23 #[.pointer (some ⟨p.a, 0, none⟩), .int .i64 ((o.h : Int) + 1), .int .i64 0, .int .i64 ((o.h : Int) + 1)] wr fun e w' => ∃ E zs', e = .returned (.int .i64 E) ∧ HSt w p c zs' pool os w' ∧ Fresh c zs' os ∧ Touch (inG p) wr w' := by
  by_cases hE : ptrE c os ((o.h : Int) + 1) 0 = 0
  · obtain ⟨k, hk0, hk, a, ha⟩ := ptrE_ok (h.heap.obAt ho) hE
    obtain rfl : k = 0 := by omega
    have hA := O.setptr_yes c zs pool os o 0 a ((o.h : Int) + 1) h.wz h.heap ho hk ha (by omega) (by have := h.heap.lt ho o.head_mem; omega)
    refine (h.act hA (h.heap.setField hm h.wz.len ho (i := 0) (by unfold Ob.f; omega) ha _).1).mono ?_
    rintro e w' ⟨rfl, h', hT⟩
    exact ⟨_, _, rfl, h', hf.setField h.heap hm ho (i := 0) (by unfold Ob.f; omega) ha _, hT⟩
  · refine (h.act0 (O.setptr_no c zs pool os ((o.h : Int) + 1) 0 ((o.h : Int) + 1) h.wz h.heap (h.heap.in64 h.wz.may ho) hE)).mono ?_
    rintro e w' ⟨rfl, h', hT⟩
    exact ⟨_, _, rfl, h', hf, hT⟩
theorem setdata_any (O : ObjFns) {w wr : World} {p : Pl} {c : Cf} {zs : List Int} {pool : List Nat} {os : List Ob} {o : Ob} (h : HSt w p c zs pool os wr) (hf : Fresh c zs os) (hm : c.May) (ho : o ∈ os) (x : Int) (h0 : 0 ≤ x) (h1 : x ≤ 4294967295) :
    Calls Try.prog 24 #[.pointer (some ⟨p.a, 0, none⟩), .int .i64 ((o.h : Int) + 1), .int .i64 0, .int .u32 x] wr fun e w' => ∃ E zs', e = .returned (.int .i64 E) ∧ HSt w p c zs' pool os w' ∧ Fresh c zs' os ∧ Touch (inG p) wr w' := by
  by_cases hE : dataE c os ((o.h : Int) + 1) 0 = 0
  · obtain ⟨k, hk0, hk, a, ha⟩ := dataE_ok (h.heap.obAt ho) hE
    obtain rfl : k = 0 := by omega
    have hA := O.setdata_yes c zs pool os o 0 a x h.wz h.heap ho hk ha h0 h1
    refine (h.act hA (h.heap.setField hm h.wz.len ho (i := o.np + 0) (by unfold Ob.f; omega) ha _).1).mono ?_
    rintro e w' ⟨rfl, h', hT⟩
    exact ⟨_, _, rfl, h', hf.setField h.heap hm ho (i := o.np + 0) (by unfold Ob.f; omega) ha _, hT⟩
  · refine (h.act0 (O.setdata_no c zs pool os ((o.h : Int) + 1) 0 x h.wz h.heap (h.heap.in64 h.wz.may ho) hE)).mono ?_
    rintro e w' ⟨rfl, h', hT⟩
    exact ⟨_, _, rfl, h', hf, hT⟩

/-- An object that was seen, in a row of such. -/
structure Sn where
  (a1 : Option Addr) (c1 n1 : Nat) (a2 : Option Addr) (c2 n2 : Nat)
def Sn.cells (s : Sn) : List Value := [.slice s.a1 s.n1 s.c1, .slice s.a2 s.n2 s.c2]
theorem cells_length (ss : List Sn) : (ss.flatMap Sn.cells).length = ss.length * 2 := by
  induction ss with
  | nil => rfl
  | cons s t ih => simp [Sn.cells, ih]; omega
theorem cells_zero (ss : List Sn) {u : Value} (h : (ss.flatMap Sn.cells)[0]? = some u) : ∃ a n c, u = .slice a n c := by
  cases ss with
  | nil => simp at h
  | cons s t => simp [Sn.cells] at h; exact ⟨_, _, _, h.symm⟩
theorem own_ne {w : World} {base : Nat} {e : TypeId} {v : Value} {n : Nat} {xs : List Value} {k : IntKind} {a : Option Addr} {zs : List Int} (h : w.ownsRow base e 2 v n xs) (hx : ∀ u, xs[0]? = some u → ∃ p q r, u = .slice p q r) (hn : n ≠ 0 ∨ v = .slice none 0 0) (hr : OwnR w k a zs) : RowOut (fun b => v.ownBlock = some b) a zs := by
  intro h0 b off ha hb
  rcases hr with hr | ⟨b', cs, t, e', hblk, hc⟩
  · omega
  · rw [ha] at e'
    cases e'
    rcases hn with hn | rfl
    · rcases h.2 with ⟨rfl, _⟩ | ⟨g, cap, cur, rfl, _, hg, _, _, hcs, ht⟩
      · cases hb
      · have hgb : g = b := by simpa [Value.ownBlock] using hb
        subst hgb
        unfold Blk at hblk
        rw [hg] at hblk
        simp at hblk
        obtain ⟨rfl, _⟩ := hblk
        have h1 := hc 0 h0
        have h2 : xs[0]? = some (.int k (nth zs 0)) := by
          rw [← ht, List.getElem?_take, if_pos (by omega), ← h1]
          simp
        obtain ⟨_, _, _, e3⟩ := hx _ h2
        cases e3
    · cases hb
/-- What was seen of one. -/
def SnAt (w : World) (lo : Nat) (zs : List Int) (o : Ob) (s : Sn) : Prop :=
  s.n1 = o.np ∧ s.n2 = o.nd ∧ OwnR w .i64 s.a1 (ptrL (cfR 60) zs o) ∧ OwnR w .u32 s.a2 (dataL (cfR 60) zs o) ∧ (∀ b off, s.a1 = some ⟨b, off, none⟩ → lo ≤ b) ∧ (∀ b off, s.a2 = some ⟨b, off, none⟩ → lo ≤ b)
theorem SnAt.touch {X : Nat → Prop} {w w' : World} {lo : Nat} {zs : List Int} {o : Ob} {s : Sn} (h : SnAt w lo zs o s) (t : Touch X w w') (h1 : RowOut X s.a1 (ptrL (cfR 60) zs o)) (h2 : RowOut X s.a2 (dataL (cfR 60) zs o)) : SnAt w' lo zs o s :=
  ⟨h.1, h.2.1, h.2.2.1.touch t h1, h.2.2.2.1.touch t h2, h.2.2.2.2⟩
/-- What was seen of all. -/
def Rem (w : World) (lo : Nat) (zs : List Int) (os : List Ob) (v : Value) (ss : List Sn) : Prop :=
  w.ownsRow lo 37 2 v ss.length (ss.flatMap Sn.cells) ∧ (ss = [] → v = .slice none 0 0) ∧ ∀ (j : Nat) o s, os[j]? = some o → ss[j]? = some s → SnAt w lo zs o s
theorem Rem.touch {X : Nat → Prop} {w w' : World} {lo : Nat} {zs : List Int} {os : List Ob} {v : Value} {ss : List Sn} (h : Rem w lo zs os v ss) (t : Touch X w w') (hX : ∀ b, lo ≤ b → ¬ X b) : Rem w' lo zs os v ss :=
  ⟨own_touch h.1 t hX, h.2.1, fun j o s h1 h2 => (h.2.2 j o s h1 h2).touch t (fun _ b off e => hX b ((h.2.2 j o s h1 h2).2.2.2.2.1 b off e)) (fun _ b off e => hX b ((h.2.2 j o s h1 h2).2.2.2.2.2 b off e))⟩
theorem Rem.more {w w' : World} {lo : Nat} {zs : List Int} {os : List Ob} {v v' : Value} {ss : List Sn} {o : Ob} {s : Sn} {ob : Obj} {n : Nat} (h : Rem w lo zs os v ss) (hn' : ss.length = n) (ho : os[n]? = some o) (hs : SnAt w lo zs o s) (hown : w'.ownsRow lo 37 2 v' (n + 1) (ss.flatMap Sn.cells ++ s.cells)) (hg : (w.alloc ob).grownBy w' v.ownBlock) : Rem w' lo zs os v' (ss ++ [s]) := by
  subst hn'
  have hT : Touch (fun b => v.ownBlock = some b) w w' := ⟨hg.os, hg.tape, hg.output, by have := hg.size; simp at this; omega, fun k hk hx => (hg.block k (by simp; omega) (fun e => hx e.symm)).trans (Below.heap_alloc _ _ _ hk)⟩
  have hn : ss.length ≠ 0 ∨ v = .slice none 0 0 := by
    by_cases e : ss = []
    · exact .inr (h.2.1 e)
    · exact .inl (fun e2 => e (List.length_eq_zero_iff.1 e2))
  have hk : ∀ o s, SnAt w lo zs o s → SnAt w' lo zs o s := fun o s k => k.touch hT (own_ne h.1 (fun u hu => cells_zero ss hu) hn k.2.2.1) (own_ne h.1 (fun u hu => cells_zero ss hu) hn k.2.2.2.1)
  refine ⟨by simpa [Sn.cells] using hown, by simp, fun j o' s' h1 h2 => ?_⟩
  by_cases hj : j < ss.length
  · rw [List.getElem?_append_left hj] at h2
    exact hk _ _ (h.2.2 j o' s' h1 h2)
  · rw [List.getElem?_append_right (by omega)] at h2
    have hj2 : j = ss.length := by
      have := (List.getElem?_eq_some_iff.1 h2).1
      simp at this
      omega
    subst hj2
    rw [ho] at h1
    cases h1
    simp at h2
    subst h2
    exact hk _ _ hs
theorem make_ints (n : Nat) (hn : n ≤ 255) (w : World) : (Instr.makeSlice 34 (.int .i64 (n : Int)) (.int .i64 (n : Int))).run Try.prog w = .ok (.slice (some ⟨w.heap.size, 0, none⟩) n n) (w.alloc (.cells (arrV (fun _ => .int .i64 0) n) 3)) := by
  obtain ⟨i0, hi, hz0, hz1, hz2⟩ := info_parts infoInt
  have := run_make w 34 3 i0 (.int .i64 0) Try.underlying34 hi hz0 .i64 .i64 (n : Int) (n : Int) (by omega) (Int.le_refl _) (by rw [hz2]; omega) (by omega)
  rw [this, hz1, ← made_arr _ rfl]
  simp
theorem infoObj : (Try.prog.info? 37).map (fun i => (i.zero, i.size, i.bytes)) = some (some (.agg #[.slice none 0 0, .slice none 0 0]), 2, 48) := by kernel_rfl

/-- What a call of the ring, or of a count, leaves of the heap. -/
def Kept (c : Cf) (os : List Ob) (zs zs' : List Int) : Prop := ∀ o i, o ∈ os → i < o.f → fldV c zs' o i = fldV c zs o i
def SameCnt (c : Cf) (os : List Ob) (zs zs' : List Int) : Prop := ∀ o, o ∈ os → nth zs' (adr c o.h 3) = nth zs (adr c o.h 3)
def RingEnd (w : World) (p : Pl) (c : Cf) (zs : List Int) (pool : List Nat) (os : List Ob) (wr w' : World) : Prop :=
  ∃ zs' l', HSt w p c zs' pool os w' ∧ RingAt c zs' l' ∧ Kept c os zs zs' ∧ SameCnt c os zs zs' ∧ Touch (inG p) wr w'
section
variable {w wr : World} {p : Pl} {c : Cf} {zs : List Int} {pool l : List Nat} {os : List Ob} {o : Ob}
theorem ringAdd_any (R : RingFns) (h : HSt w p c zs pool os wr) (hr : RingAt c zs l) (hm : c.May) (ho : o ∈ os) :
    Calls Try.prog 26 #[.pointer (some ⟨p.a, 0, none⟩), .int .i64 (o.h : Int)] wr fun e w' => ∃ b, e = .returned (.bool b) ∧ RingEnd w p c zs pool os wr w' := by
  by_cases hl : o.h ∈ l
  · refine (h.act0 (R.add_no c zs l (o.h : Int) h.wz hr (.inr ⟨o.h, rfl, (h.heap.obs o ho).hlt, .inr hl⟩))).mono ?_
    rintro e w' ⟨rfl, h', hT⟩
    exact ⟨_, rfl, zs, l, h', hr, fun _ _ _ _ => rfl, fun _ _ => rfl, hT⟩
  · have k := h.heap.ringAdd hr hm h.wz.len ho hl
    have k2 := h.heap.heads hm k.2.1
    refine (h.act (R.add_yes c zs l o.h h.wz hr (h.heap.obs o ho).hlt hl (h.heap.obs o ho).head) k2.1).mono ?_
    rintro e w' ⟨rfl, h', hT⟩
    exact ⟨_, rfl, _, _, h', k.1, k2.2, k.2.2, hT⟩
theorem hasB_ints {l : List Nat} {b : Nat} (h : b ∉ l) : hasB (ints l) (b : Int) = false := by
  cases e : hasB (ints l) (b : Int) with
  | false => rfl
  | true =>
    obtain ⟨k, hk, hm⟩ := hasB_nat e
    exact absurd ((show k = b by omega) ▸ hm) h
theorem ringCut_any (R : RingFns) (h : HSt w p c zs pool os wr) (hr : RingAt c zs l) (hm : c.May) (ho : o ∈ os) :
    Calls Try.prog 27 #[.pointer (some ⟨p.a, 0, none⟩), .int .i64 (o.h : Int)] wr fun e w' => ∃ b, e = .returned (.bool b) ∧ RingEnd w p c zs pool os wr w' := by
  by_cases hl : o.h ∈ l
  · obtain ⟨l1, l2, rfl⟩ := split_of hl
    have k := h.heap.ringCut hr hm h.wz.len ho
    have k2 := h.heap.heads hm k.2.1
    refine (h.act (R.cut_yes c zs _ o.h h.wz hr hl) k2.1).mono ?_
    rintro e w' ⟨rfl, h', hT⟩
    exact ⟨_, rfl, _, _, h', k.1, k2.2, k.2.2, hT⟩
  · refine (h.act0 (R.cut_no c zs l (o.h : Int) h.wz hr (hasB_ints hl))).mono ?_
    rintro e w' ⟨rfl, h', hT⟩
    exact ⟨_, rfl, zs, l, h', hr, fun _ _ _ _ => rfl, fun _ _ => rfl, hT⟩
theorem ringTake_any (R : RingFns) (h : HSt w p c zs pool os wr) (hr : RingAt c zs l) (hm : c.May) :
    Calls Try.prog 28 #[.pointer (some ⟨p.a, 0, none⟩)] wr fun e w' => ∃ b k, e = .returned (.tuple #[.int .i64 b, .bool k]) ∧ RingEnd w p c zs pool os wr w' := by
  cases l with
  | nil =>
    refine (h.act0 (R.take_no c zs h.wz hr)).mono ?_
    rintro e w' ⟨rfl, h', hT⟩
    exact ⟨_, _, rfl, zs, [], h', hr, fun _ _ _ _ => rfl, fun _ _ => rfl, hT⟩
  | cons b t =>
    obtain ⟨o, ho, rfl⟩ := h.heap.ringHead hm hr (b := b) (by simp)
    have k := h.heap.ringCut (l1 := []) (l2 := t) (o := o) (by simpa using hr) hm h.wz.len ho
    have k2 := h.heap.heads hm k.2.1
    refine (h.act (R.take_yes c zs t o.h h.wz hr) k2.1).mono ?_
    rintro e w' ⟨rfl, h', hT⟩
    exact ⟨_, _, rfl, _, _, h', k.1, k2.2, k.2.2, hT⟩
theorem countUp_any (C : CountFns) (h : HSt w p c zs pool os wr) (hr : RingAt c zs l) (hm : c.May) (ho : o ∈ os) (hk : nth zs (adr c o.h 3) < 4294967295) :
    Calls Try.prog 13 #[.pointer (some ⟨p.a, 0, none⟩), .int .i64 ((o.h : Int) + 1)] wr fun e w' => ∃ v k zs', e = .returned (.tuple #[v, k]) ∧ HSt w p c zs' pool os w' ∧ RingAt c zs' l ∧ Kept c os zs zs' ∧ nth zs' (adr c o.h 3) = nth zs (adr c o.h 3) + 1 ∧ (∀ o', o' ∈ os → o'.h ≠ o.h → nth zs' (adr c o'.h 3) = nth zs (adr c o'.h 3)) ∧ Touch (inG p) wr w' := by
  have hc := cnt_set h.heap hm h.wz.len ho (nth zs (adr c o.h 3) + 1)
  refine (h.act (C.up_yes c zs pool os o h.wz h.heap ho hk) (h.setOwn hm ho (v := 3) (by decide) (by decide) _)).mono ?_
  rintro e w' ⟨rfl, h', hT⟩
  exact ⟨_, _, _, rfl, h', hr.setOwn hm (by decide) (by decide) (by decide) (by decide) _, hc.2.2, hc.1, hc.2.1, hT⟩
end

/-- Where things stand while the acts are done. -/
def Act3 (w : World) (p : Pl) (zs : List Int) (pool : List Nat) (os : List Ob) (q : Nat) (w5 : World) (j : Nat) (wr : World) : Prop :=
  ∃ (zs' : List Int) (l : List Nat) (f : Nat → Nat), HSt w p (cfR 60) zs' pool os wr ∧ RingAt (cfR 60) zs' l ∧ Kept (cfR 60) os zs zs' ∧ (∀ (t : Nat) o, os[t]? = some o → nth zs' (adr (cfR 60) o.h 3) = (f t : Int)) ∧ (∀ t, f t ≤ j) ∧
    Blk wr q (arrV (fun t => .int .i64 ((f t : Nat) : Int)) os.length) 3 ∧ Touch (fun i => inG p i ∨ i = q) w5 wr
theorem Kept.trans {c : Cf} {os : List Ob} {a b d : List Int} (h : Kept c os a b) (k : Kept c os b d) : Kept c os a d := fun o i h1 h2 => (k o i h1 h2).trans (h o i h1 h2)
theorem Act3.ring {w : World} {p : Pl} {zs zs' : List Int} {pool : List Nat} {os : List Ob} {q : Nat} {w5 : World} {j : Nat} {f : Nat → Nat} {wr w' : World} (hK : Kept (cfR 60) os zs zs') (hf : ∀ (t : Nat) o, os[t]? = some o → nth zs' (adr (cfR 60) o.h 3) = (f t : Int)) (hj : ∀ t, f t ≤ j) (hb : Blk wr q (arrV (fun t => .int .i64 ((f t : Nat) : Int)) os.length) 3) (hq : ¬ inG p q) (hT : Touch (fun i => inG p i ∨ i = q) w5 wr)
    (h : RingEnd w p (cfR 60) zs' pool os wr w') : Act3 w p zs pool os q w5 (j + 1) w' := by
  obtain ⟨z, l', hS, hR, k1, k2, t⟩ := h
  exact ⟨z, l', f, hS, hR, hK.trans k1, fun t o ho => by rw [k2 o (List.mem_of_getElem? ho)]; exact hf t o ho, fun t => by have := hj t; omega, hb.touch t hq, hT.trans (t.mono (fun _ _ h => Or.inl h))⟩

theorem heads_nodup : ∀ {os : List Ob}, (os.flatMap Ob.blocks).Nodup → (os.map Ob.h).Nodup
  | [], _ => by simp
  | x :: t, hn => by
    rw [List.flatMap_cons, List.nodup_append] at hn
    obtain ⟨n1, n2, n3⟩ := hn
    rw [List.map_cons, List.nodup_cons]
    refine ⟨fun hm => ?_, heads_nodup n2⟩
    obtain ⟨o, ho, e⟩ := List.mem_map.1 hm
    exact n3 x.h x.head_mem x.h (List.mem_flatMap.2 ⟨o, ho, e ▸ o.head_mem⟩) rfl
theorem heads_inj {c : Cf} {zs : List Int} {pool : List Nat} {os : List Ob} (h : HeapAt c zs pool os) {s t : Nat} {o o' : Ob} (h1 : os[s]? = some o') (h2 : os[t]? = some o) (e : o'.h = o.h) : s = t := by
  have hs : s < (os.map Ob.h).length := by simpa using (List.getElem?_eq_some_iff.1 h1).1
  refine (List.getElem?_inj hs (heads_nodup h.nodupB)).1 ?_
  rw [List.getElem?_map, List.getElem?_map, h1, h2]
  simp [e]

theorem touch_new {X : Nat → Prop} {wr wz : World} {o : Obj} (t : Touch (fun i => X i ∨ i = wr.heap.size) (wr.alloc o) wz) : Touch X wr wz :=
  ⟨t.os, t.tape, t.output, by have := t.size; simp at this; omega, fun k hk hx => (t.block k (by simp; omega) (fun h => h.elim hx (fun e => by omega))).trans (Below.heap_alloc _ _ _ hk)⟩
theorem cells_at : ∀ {ss : List Sn} {k : Nat} {s : Sn}, ss[k]? = some s → (ss.flatMap Sn.cells)[k * 2]? = some (.slice s.a1 s.n1 s.c1) ∧ (ss.flatMap Sn.cells)[k * 2 + 1]? = some (.slice s.a2 s.n2 s.c2)
  | [], k, s, h => by simp at h
  | x :: t, 0, s, h => by
    simp at h
    subst h
    exact ⟨rfl, rfl⟩
  | x :: t, k + 1, s, h => by
    have := cells_at (ss := t) (k := k) (s := s) (by simpa using h)
    rw [show (k + 1) * 2 = k * 2 + 2 by omega]
    simpa [Sn.cells] using this
theorem own_cells {w : World} {base : Nat} {e : TypeId} {v : Value} {n : Nat} {ss : List Sn} (h : w.ownsRow base e 2 v n (ss.flatMap Sn.cells)) {k : Nat} {s : Sn} (hk : ss[k]? = some s) :
    ∃ g cap, v = .slice (some ⟨g, 0, none⟩) n cap ∧ base ≤ g ∧ g < w.heap.size ∧ w.cell? ⟨g, k * 2, none⟩ = some (.slice s.a1 s.n1 s.c1) ∧ w.cell? ⟨g, k * 2 + 1, none⟩ = some (.slice s.a2 s.n2 s.c2) := by
  have hl := h.1
  rw [cells_length] at hl
  have hkl := (List.getElem?_eq_some_iff.1 hk).1
  obtain ⟨c1, c2⟩ := cells_at hk
  rcases h.2 with ⟨_, h0⟩ | ⟨g, cap, cur, rfl, hb, hg, _, _, _, ht⟩
  · omega
  · have hB : Blk w g cur e := hg
    refine ⟨g, cap, rfl, hb, hB.lt, hB.cell (k * 2) ?_, hB.cell (k * 2 + 1) ?_⟩
    · rw [← ht, List.getElem?_take, if_pos (by omega)] at c1
      rw [← Array.getElem?_toList]
      exact c1
    · rw [← ht, List.getElem?_take, if_pos (by omega)] at c2
      rw [← Array.getElem?_toList]
      exact c2

set_option maxRecDepth 100000 in
set_option maxHeartbeats 8000000 in
theorem wholeRows_few (F : PoolFns) (O : ObjFns) (R : RingFns) (C : CountFns) (v : Int) (a : Option Addr) (cap : Nat) (rs : List (List Fld)) (b : Option Addr) (capb : Nat) (ks : List Int) (w : World) (h0 : 1 ≤ rs.length) (h1 : rs.length ≤ 20) (h2 : ks.length ≤ 200)
    (hv0 : 0 ≤ v) (hv1 : v ≤ 4294967295) (hr : Recs w a [.int .i64, .int .i64] rs) (hks : Row w .u8 b ks) (hkk : Kinds ks) :
    Calls Try.prog 5 #[.slice a rs.length cap, .slice b ks.length capb, .int .u32 v] w fun e w' => e = .returned (.bool true) ∧ Below w.heap.size w w' := by
  obtain ⟨i0, hi, hz0, hz1, hz2⟩ := info_parts infoInt
  have HR := Lib.hid hr
  have HKS := Lib.hid hks
  have HKK := Lib.hid hkk
  have g0 : ¬ (rs.length : Int) < 1 := by omega
  have g1 : ¬ 20 < (rs.length : Int) := by omega
  have g2 : ¬ 200 < (ks.length : Int) := by omega
  have HM : Hid (cfR 60).May := Lib.hid (cfR_may (by decide) (by decide))
  clear hr hks hkk
  go_enter Try.func5, Try.ntmps5
  go_wp2_with fail
  refine (awakeRow_any F O R _).mono ?_
  rintro e w0 ⟨rfl, hb⟩
  have HB0 := Lib.hid hb
  clear hb
  go_wp2_with fail
  refine (newR 60 (by decide) (by decide) _).mono ?_
  rintro e w1 ⟨p, rfl, hG, hp, hb⟩
  have HG := Lib.hid hG
  have HP : Hid (∀ k, inG p k → w.heap.size ≤ k) := Lib.hid (fun k hk => Nat.le_trans HB0.out.size (hp k (Or.inr hk)))
  have HB := Lib.hid (below_step HB0.out hb)
  clear hG hp hb
  go_wp2_with fail
  refine (open_step F HM.out HG.out HP.out HB.out).mono ?_
  rintro e w2 ⟨z0, rfl, hs, hf, _⟩
  have HS0 := Lib.hid hs
  have HNG : Hid (∀ i, w2.heap.size ≤ i → ¬ inG p i) := Lib.hid (fun i hi hx => hs.notG hi (Or.inr hx))
  have HNO : Hid (∀ i, w2.heap.size ≤ i → ¬ ofG p i) := Lib.hid (fun i hi => hs.notG hi)
  have HLo : Hid (w.heap.size ≤ w2.heap.size) := Lib.hid hs.below.size
  have HM0 : Hid (Mk w w2.heap.size p [] (.slice none 0 0) (.int .i64 0) w2) := Lib.hid ⟨z0, _, hs, hf, World.ownsRow_nil _ _ _ _, by simp [cfR], Nat.le_refl _⟩
  clear hs hf
  go_wp2_with fail
  go_loopw [9, 10, 60] (fun x n i wr => ∃ k : Nat, k ≤ rs.length ∧ i = .int .i64 (k : Int) ∧ ∃ os, os.length ≤ k ∧ Mk w w2.heap.size p os x n wr) (fun _ _ i _ => rs.length - (intOf i).toNat)
  case atStart => exact ⟨0, Nat.zero_le _, rfl, [], Nat.le_refl _, HM0.out⟩
  case round =>
    obtain ⟨k, hk, rfl, os, hos, zs, pool, hS, hF, hown, rfl, hsz⟩ := hrel
    have HS := Lib.hid hS
    have HF := Lib.hid hF
    have HO := Lib.hid hown
    have HSz := Lib.hid hsz
    have hpn : pool.length ≤ 60 := nodup_len hS.heap.pl.ch.nd hS.heap.pl.ch.lt
    by_cases hlt : k < rs.length
    · obtain ⟨b1, off, x0, y0, rfl, hb0, c0, c1⟩ := osz_of HR.out hlt
      have d0 := (hS.below.cell (p := ⟨b1, off + k * 2, none⟩) hb0).trans c0
      have d1 := (hS.below.cell (p := ⟨b1, off + k * 2 + 1, none⟩) hb0).trans c1
      have HS1 := Lib.hid (hS.later (below_new wr (.cells #[.int .i64 x0, .int .i64 y0] 23)))
      have HO1 := Lib.hid (hown.alloc (.cells #[.int .i64 x0, .int .i64 y0] 23))
      have HZ1 : Hid (w2.heap.size ≤ (wr.alloc (.cells #[.int .i64 x0, .int .i64 y0] 23)).heap.size) := Lib.hid (by simp; omega)
      clear hS hF hown hsz c0 c1 hb0
      go_wp2_with fail
      refine (make_any O HS1.out x0 y0).mono ?_
      rintro e w3 ⟨hM, hT⟩
      have HO3 := Lib.hid (own_touch HO1.out hT HNG.out)
      have HZ3 : Hid (w2.heap.size ≤ w3.heap.size) := Lib.hid (Nat.le_trans HZ1.out hT.size)
      clear hT d0 d1
      rcases hM with ⟨E1, rfl, hE1, h3⟩ | ⟨h', ls, pool', zs', np, nd, rfl, rfl, hpool, rfl, h3, hMd, hlen⟩
      · have HMk : Hid (Mk w w2.heap.size p os _ (.int .i64 (60 - (pool.length : Int))) w3) := Lib.hid ⟨zs, pool, h3, HF.out, HO3.out, rfl, HZ3.out⟩
        have hEb : (E1 != 0) = true := by rw [bne_iff_ne]; exact hE1
        clear h3 hE1
        go_wp2_with fail
        go_roundw
        case rel => exact ⟨k + 1, by omega, by go_num, os, by omega, HMk.out⟩
        case measure => simp [intOf]; omega
      · have HS3 := Lib.hid h3
        have hk1 : blkN (os ++ [newOb h' np nd ls]) ((h' : Int) + 1) = 1 + (ls.length : Int) := by
          unfold blkN
          have := h3.heap.obAt (o := newOb h' np nd ls) (by simp)
          rw [show ((h' : Int) + 1) = (((newOb h' np nd ls).h : Int) + 1) from rfl, this]
          simp [newOb]
        have hpl : pool.length = 1 + ls.length + pool'.length := by rw [hpool]; simp; omega
        have HF3 := Lib.hid (hMd.fresh HF.out HM.out)
        have A2 := O.blocks (cfR 60) zs' pool' _ ((h' : Int) + 1) h3.wz h3.heap (h3.heap.in64 h3.wz.may (o := newOb h' np nd ls) (by simp))
        rw [hk1] at A2
        have HA2 := Lib.hid A2
        have l2 : IntKind.i64.wrap ((60 - (pool.length : Int)) + (1 + (ls.length : Int))) = 60 - (pool'.length : Int) := by rw [show (60 - (pool.length : Int)) + (1 + (ls.length : Int)) = 60 - (pool'.length : Int) by omega]; exact IntWalk.i64_in _ (by omega)
        have HX : Hid (0 ≤ (v + (k : Int)) % 4294967296 ∧ (v + (k : Int)) % 4294967296 ≤ 4294967295) := Lib.hid (by omega)
        have hown := HO3.out
        have hsz := HZ3.out
        clear h3 hMd hlen hpool hk1 A2 hpl
        go_wp2_with (at_builtin; refine wpList_append_own _ rfl _ _ 34 rfl w2.heap.size 3 i0 (.int .i64 0) 1 8 Try.underlying34 hi hz0 hz1 hz2 rfl (by decide) _ _ _ rfl (hown.alloc _) ⟨w3.heap.size, 0, none⟩ 1 1 [.int .i64 ((h' : Int) + 1)] rfl rfl ?c1 ?c2 ?c3 ?c4 ?c5 ?c6)
        case c1 => exact cell_one_new w3 _ _
        case c2 => intro u hu; simp at hu; subst hu; rfl
        case c3 => unfold maxLen; omega
        case c4 => omega
        case c5 => simp; omega
        case c6 =>
          intro v' w6 hown' hgrow _
          have hown6 : w6.ownsRow w2.heap.size 3 1 v' (os ++ [newOb h' np nd ls]).length (((os ++ [newOb h' np nd ls]).map (fun o => (o.h : Int) + 1)).map (Value.int .i64)) := by simpa [newOb] using hown'
          have HO6 := Lib.hid hown6
          have hbel6 : Below w2.heap.size w3 w6 := ((Below.refl w2.heap.size w3).alloc hsz (.cells #[.int .i64 ((h' : Int) + 1)] 3)).grown hgrow (by simp; omega) (owns_block hown)
          have HT6 : Hid (Touch (fun i => w2.heap.size ≤ i) w3 w6) := Lib.hid ⟨hbel6.os, hbel6.tape, hbel6.output, hbel6.size, fun j hj hx => hbel6.block j (by omega)⟩
          have HS6 : Hid (HSt w p (cfR 60) zs' pool' (os ++ [newOb h' np nd ls]) w6) := Lib.hid (by
            obtain ⟨m, hG, hh, hp, hB⟩ := HS3.out
            exact ⟨m, hG.touch HT6.out (fun i hi hx => HNO.out i hx hi), hh, hp, hB.trans (HT6.out.below (B := w.heap.size) (fun i hi => Nat.le_trans HLo.out hi) hB.size)⟩)
          have HZ6 : Hid (w2.heap.size ≤ w6.heap.size) := Lib.hid (Nat.le_trans hsz hbel6.size)
          clear hown' hgrow hown hown6 hbel6 hsz
          go_wp2_with fail
          refine (HS6.out.act0 HA2.out).mono ?_
          rintro e w7 ⟨rfl, hS, hT⟩
          have HS7 := Lib.hid hS
          have HO7 := Lib.hid (own_touch HO6.out hT HNG.out)
          have HZ7 : Hid (w2.heap.size ≤ w7.heap.size) := Lib.hid (Nat.le_trans HZ6.out hT.size)
          clear hS hT
          go_wp2_with fail
          refine (setptr_any O HS7.out HF3.out HM.out (o := newOb h' np nd ls) (by simp)).mono ?_
          rintro e w8 ⟨E8, z8, rfl, hS, hF, hT⟩
          have HS8 := Lib.hid hS
          have HF8 := Lib.hid hF
          have HO8 := Lib.hid (own_touch HO7.out hT HNG.out)
          have HZ8 : Hid (w2.heap.size ≤ w8.heap.size) := Lib.hid (Nat.le_trans HZ7.out hT.size)
          clear hS hF hT
          go_wp2_with fail
          refine (setdata_any O HS8.out HF8.out HM.out (o := newOb h' np nd ls) (by simp) _ HX.out.1 HX.out.2).mono ?_
          rintro e w9 ⟨E9, z9, rfl, hS, hF, hT⟩
          have HMk : Hid (Mk w w2.heap.size p (os ++ [newOb h' np nd ls]) v' (.int .i64 (60 - (pool'.length : Int))) w9) := Lib.hid ⟨z9, pool', hS, hF, own_touch HO8.out hT HNG.out, rfl, Nat.le_trans HZ8.out hT.size⟩
          clear hS hF hT
          go_wp2_with fail
          go_roundw
          case rel => exact ⟨k + 1, by omega, by go_num, os ++ [newOb h' np nd ls], by simp; omega, HMk.out⟩
          case measure => simp [intOf]; omega
    · have hL : (os.map (fun o => (o.h : Int) + 1)).length = os.length := by simp
      obtain ⟨L, hLe⟩ : ∃ L, L = os.map (fun o => (o.h : Int) + 1) := ⟨_, rfl⟩
      rw [← hLe] at hown hL
      rw [← hL] at hown
      have hob := owns_block hown
      obtain ⟨a9, c9, rfl, hr9⟩ := OwnR.of_owns hown
      have hL20 : L.length ≤ 20 := by omega
      have HR9 := Lib.hid hr9.row
      have HX9 : Hid (RowOut (inG p) a9 L) := Lib.hid (fun _ b off e hx => HNG.out b (hob b (by rw [e]; rfl)) hx)
      have A1 := Lib.hid (F.len (cfR 60) zs pool hS.wz hS.heap.pl.ch)
      by_cases hn0 : L.length = 0
      · have hpn2 : pool.length = 60 := by
          have h3 := hS.heap
          rw [List.length_eq_zero_iff.1 (show os.length = 0 by omega)] at h3
          exact h3.poolN
        rw [hpn2] at A1
        rw [hn0]
        clear hS hF hown hsz hr9 hob hLe hL
        go_wp2_with fail
        refine (HS.out.act0 A1.out).mono ?_
        rintro e w3 ⟨rfl, h3, _⟩
        have HB3 := Lib.hid h3.below
        clear h3
        go_wp2_with fail
        go_ret
        exact ⟨rfl, HB3.out⟩
      · have hLo : os.length = L.length := hL.symm
        have HLe : Hid (L = os.map (fun o => (o.h : Int) + 1)) := Lib.hid hLe
        have hnb : ((L.length : Int) == 0) = false := by rw [beq_eq_false_iff_ne]; omega
        have HRm : Hid (Rem wr wr.heap.size zs os (.slice none 0 0) []) := Lib.hid ⟨World.ownsRow_nil _ _ _ _, fun _ => rfl, fun j o s _ h => by simp at h⟩
        have HNR : Hid (∀ i, wr.heap.size ≤ i → ¬ inG p i) := Lib.hid (fun i hi => HNG.out i (by have := HSz.out; omega))
        have HLr : Hid (w.heap.size ≤ wr.heap.size) := Lib.hid hS.below.size
        obtain ⟨j0, hj0, hj1, hj2, hj3⟩ := info_parts infoObj
        clear hS hF hown hsz hr9 hob hLe hL HO
        go_wp2_with fail
        generalize hw3 : wr = w3 at *
        clear hw3
        go_loopw [15, 105] (fun x i wr => ∃ k : Nat, k ≤ L.length ∧ i = .int .i64 (k : Int) ∧ ∃ ss, ss.length = k ∧ HSt w p (cfR 60) zs pool os wr ∧ Touch (inG p) w3 wr ∧ Rem wr w3.heap.size zs os x ss) (fun _ i _ => L.length - (intOf i).toNat)
        case atStart => exact ⟨0, Nat.zero_le _, rfl, [], rfl, HS.out, Touch.refl _ _, HRm.out⟩
        case round =>
          obtain ⟨k, hk, rfl, ss, hss, hS, hT, hR⟩ := hrel
          have HS2 := Lib.hid hS
          have HT2 := Lib.hid hT
          have HR2 := Lib.hid hR
          by_cases hlt : k < L.length
          · obtain ⟨o, hok⟩ : ∃ o, os[k]? = some o := ⟨os[k], by simp [show k < os.length by omega]⟩
            have hLk : L[k]? = some ((o.h : Int) + 1) := by rw [HLe.out, List.getElem?_map, hok]; rfl
            have hLn : nth L k = (o.h : Int) + 1 := by unfold nth; rw [List.getD_eq_getElem?_getD, hLk]; rfl
            have hom : o ∈ os := List.mem_of_getElem? hok
            obtain ⟨b9, o9, rfl, hb9, hc9⟩ := (HR9.out.touch hT HX9.out) k hlt
            rw [hLn] at hc9
            have HOk := Lib.hid hok
            clear hS hT hR hok hLk hLn
            go_wp2_with fail
            refine (HS2.out.look (O.see_yes _ _ _ _ o HS2.out.wz HS2.out.heap hom)).mono ?_
            rintro e w4 ⟨a1, c1, a2, c2, rfl, r1, r2, f1, f2, f12, hb, e1, e2⟩
            have HO4 : Hid (Touch (inG p) w3 (w4.alloc (.cells #[.slice a1 o.np c1, .slice a2 o.nd c2] 37))) := Lib.hid ((HT2.out.trans (Touch.of_below hb)).alloc _)
            have HS4 := Lib.hid ((HS2.out.later hb).later (below_new w4 (.cells #[.slice a1 o.np c1, .slice a2 o.nd c2] 37)))
            have HR4 := Lib.hid ((HR2.out.touch (Touch.of_below (X := fun _ => False) hb) (fun _ _ h => h)).touch (Touch.of_below (X := fun _ => False) (below_new w4 (.cells #[.slice a1 o.np c1, .slice a2 o.nd c2] 37))) (fun _ _ h => h))
            have hlo : w3.heap.size ≤ wr.heap.size := HT2.out.size
            have HSn : Hid (SnAt (w4.alloc (.cells #[.slice a1 o.np c1, .slice a2 o.nd c2] 37)) w3.heap.size zs o ⟨a1, c1, o.np, a2, c2, o.nd⟩) := Lib.hid ⟨rfl, rfl, r1.alloc _, r2.alloc _, fun b off e => Nat.le_trans hlo (f1 b off e), fun b off e => Nat.le_trans hlo (f2 b off e)⟩
            have hbx := Blk.new w4 #[.slice a1 o.np c1, .slice a2 o.nd c2] 37
            have q0 := hbx.cell 0 rfl
            have q1 := hbx.cell 1 rfl
            have HLo4 : Hid (w3.heap.size ≤ w4.heap.size) := Lib.hid (Nat.le_trans hlo hb.size)
            clear r1 r2 f1 f2 f12 hb e1 e2 hbx
            have hown := HR4.out.1
            go_wp2_with (at_builtin; refine wpList_append_own _ rfl _ _ 56 rfl w3.heap.size 37 j0 (.agg #[.slice none 0 0, .slice none 0 0]) 2 48 Try.underlying56 hj0 hj1 hj2 hj3 rfl (by decide) _ _ _ rfl (hown.alloc _) ⟨w4.heap.size + 1, 0, none⟩ 1 1 [.slice a1 o.np c1, .slice a2 o.nd c2] rfl rfl ?c1 ?c2 ?c3 ?c4 ?c5 ?c6)
            case c1 =>
              intro j u hu
              have hb2 := Blk.new (w4.alloc (.cells #[.slice a1 o.np c1, .slice a2 o.nd c2] 37)) #[.slice a1 o.np c1, .slice a2 o.nd c2] 37
              simp only [World.size_alloc] at hb2
              match j, hu with
              | 0, hu => simp at hu; subst hu; exact hb2.cell 0 rfl
              | 1, hu => simp at hu; subst hu; exact hb2.cell 1 rfl
              | j + 2, hu => simp at hu
            case c2 => intro u hu; simp at hu; rcases hu with rfl | rfl <;> rfl
            case c3 => unfold maxLen; omega
            case c4 => omega
            case c5 => have := HLo4.out; simp; omega
            case c6 =>
              intro v' w6 hown' hgrow _
              have HR6 := Lib.hid (HR4.out.more hss HOk.out HSn.out hown' hgrow)
              have hbel6 : Below w3.heap.size (w4.alloc (.cells #[.slice a1 o.np c1, .slice a2 o.nd c2] 37)) w6 := ((Below.refl w3.heap.size (w4.alloc (.cells #[.slice a1 o.np c1, .slice a2 o.nd c2] 37))).alloc (by have := HLo4.out; simp; omega) (.cells #[.slice a1 o.np c1, .slice a2 o.nd c2] 37)).grown hgrow (by have := HLo4.out; simp; omega) (owns_block hown)
              have HT6 : Hid (Touch (fun i => w3.heap.size ≤ i) (w4.alloc (.cells #[.slice a1 o.np c1, .slice a2 o.nd c2] 37)) w6) := Lib.hid ⟨hbel6.os, hbel6.tape, hbel6.output, hbel6.size, fun j hj hx => hbel6.block j (by omega)⟩
              have HS6 : Hid (HSt w p (cfR 60) zs pool os w6) := Lib.hid (by
                obtain ⟨m, hG, hh, hp, hB⟩ := HS4.out
                exact ⟨m, hG.touch HT6.out (fun i hi hx => HNO.out i (Nat.le_trans HSz.out hx) hi), hh, hp, hB.trans (HT6.out.below (B := w.heap.size) (fun i hi => Nat.le_trans HLr.out hi) hB.size)⟩)
              have HT7 : Hid (Touch (inG p) w3 w6) := Lib.hid ⟨hbel6.os.trans HO4.out.os, hbel6.tape.trans HO4.out.tape, hbel6.output.trans HO4.out.output, Nat.le_trans HO4.out.size hbel6.size, fun j hj hx => (hbel6.block j hj).trans (HO4.out.block j hj hx)⟩
              clear hown' hgrow hown hbel6 q0 q1
              go_wp2_with fail
              go_roundw
              case rel => exact ⟨k + 1, by omega, by go_num, ss ++ [⟨a1, c1, o.np, a2, c2, o.nd⟩], by simp; omega, HS6.out, HT7.out, HR6.out⟩
              case measure => simp [intOf]; omega
          · obtain rfl : k = L.length := by omega
            have hmk := make_ints L.length (by omega)
            have hRow9 := HR9.out.touch HT2.out HX9.out
            have HR9w := Lib.hid (hRow9.later (below_new wr (.cells (arrV (fun _ => .int .i64 0) L.length) 3)))
            have HKw := Lib.hid ((HKS.out.below HS2.out.below (Nat.le_refl _)).later (below_new wr (.cells (arrV (fun _ => .int .i64 0) L.length) 3)))
            have HRm5 := Lib.hid (HR2.out.touch (Touch.of_below (X := fun _ => False) (below_new wr (.cells (arrV (fun _ => .int .i64 0) L.length) 3))) (fun _ _ h => h))
            have HNqo : Hid (¬ ofG p wr.heap.size) := Lib.hid (HS2.out.notG (Nat.le_refl _))
            have HNq : Hid (¬ inG p wr.heap.size) := Lib.hid (fun hx => HS2.out.notG (Nat.le_refl _) (Or.inr hx))
            have HA0 : Hid (Act3 w p zs pool os wr.heap.size (wr.alloc (.cells (arrV (fun _ => .int .i64 0) L.length) 3)) 0 (wr.alloc (.cells (arrV (fun _ => .int .i64 0) L.length) 3))) := Lib.hid ⟨zs, [], fun _ => 0, HS2.out.later (below_new _ _), HF.out.ring HS2.out.heap HM.out, fun _ _ _ _ => rfl, fun t o ho => HF.out.cnt o (List.mem_of_getElem? ho), fun _ => Nat.le_refl _, by rw [hLo]; exact Blk.new _ _ _, Touch.refl _ _⟩
            have HQlo : Hid (w3.heap.size ≤ wr.heap.size) := Lib.hid HT2.out.size
            have HW5 : Hid (∀ wz, Touch (fun i => inG p i ∨ i = wr.heap.size) (wr.alloc (.cells (arrV (fun _ => .int .i64 0) L.length) 3)) wz → Touch (inG p) wr wz) := Lib.hid (fun wz t => touch_new t)
            clear hS hT hR hRow9
            go_wp2_with fail
            generalize hw5 : wr.alloc _ = w5 at *
            generalize hq : wr.heap.size = q at *
            have HXk : Hid (RowOut (fun i => inG p i ∨ i = q) b ks) := Lib.hid (HKS.out.out (fun i hi => hi.elim (fun h => HP.out i h) (fun h => by have := HQlo.out; have := HLr.out; omega)))
            have HX9q : Hid (RowOut (fun i => inG p i ∨ i = q) a9 L) := Lib.hid (fun h0 b off e hx => hx.elim (HX9.out h0 b off e) (HR9.out.out (X := fun i => i = q) (fun i hi => by have := HQlo.out; omega) h0 b off e))
            generalize hwe : wr = w4 at *
            clear hw5 hq hwe
            go_loopw [125] (fun i wr => ∃ j : Nat, j ≤ ks.length ∧ i = .int .i64 (j : Int) ∧ Act3 w p zs pool os q w5 j wr) (fun i _ => ks.length - (intOf i).toNat)
            case atStart => exact ⟨0, Nat.zero_le _, rfl, HA0.out⟩
            case round =>
              obtain ⟨j, hj, rfl, zs', l, f, hS, hR, hK, hf, hfj, hb, hT⟩ := hrel
              have HS3 := Lib.hid hS
              have HR3 := Lib.hid hR
              have HK3 := Lib.hid hK
              have Hf := Lib.hid hf
              have Hfj := Lib.hid hfj
              have HBq := Lib.hid hb
              have HT3 := Lib.hid hT
              by_cases hlt : j < ks.length
              · have hkx := HKK.out j
                obtain ⟨bk, ok, rfl, hbk, hck⟩ := (HKw.out.touch HT3.out HXk.out) j hlt
                obtain ⟨x, hx⟩ : ∃ x : Nat, nth ks j = (x : Int) := ⟨(nth ks j).toNat, by omega⟩
                rw [hx] at hck hkx
                obtain ⟨y, ey, hy⟩ : ∃ y : Nat, Int.tdiv (x : Int) 4 = (y : Int) ∧ y ≤ 63 := ⟨x / 4, by rw [Int.tdiv_eq_ediv_of_nonneg (by omega)]; omega, by omega⟩
                obtain ⟨t, et, ht⟩ : ∃ t : Nat, Int.tmod (y : Int) (L.length : Int) = (t : Int) ∧ t < L.length := ⟨y % L.length, by rw [Int.tmod_eq_emod_of_nonneg (by omega)]; rfl, Nat.mod_lt _ (by omega)⟩
                obtain ⟨o, hok⟩ : ∃ o, os[t]? = some o := ⟨os[t], by simp [show t < os.length by omega]⟩
                have hLk : L[t]? = some ((o.h : Int) + 1) := by rw [HLe.out, List.getElem?_map, hok]; rfl
                have hLn : nth L t = (o.h : Int) + 1 := by unfold nth; rw [List.getD_eq_getElem?_getD, hLk]; rfl
                have hom : o ∈ os := List.mem_of_getElem? hok
                obtain ⟨b9, o9, rfl, hb9, hc9⟩ := (HR9w.out.touch HT3.out HX9q.out) t ht
                rw [hLn] at hc9
                have hoN : o.h < 60 := (HS3.out.heap.obs o hom).hlt
                have HOk := Lib.hid hok
                have hrr : Int.tmod (x : Int) 4 = 0 ∨ Int.tmod (x : Int) 4 = 1 ∨ Int.tmod (x : Int) 4 = 2 ∨ Int.tmod (x : Int) 4 = 3 := by rw [Int.tmod_eq_emod_of_nonneg (by omega)]; omega
                clear hS hR hK hf hfj hb hT hok hLk hLn hx
                rcases hrr with er | er | er | er
                · go_wp2_with fail
                  refine (ringAdd_any R HS3.out HR3.out HM.out hom).mono ?_
                  rintro e w6 ⟨bb, rfl, hEnd⟩
                  have HA := Lib.hid (Act3.ring HK3.out Hf.out Hfj.out HBq.out HNq.out HT3.out hEnd)
                  clear hEnd
                  go_wp2_with fail
                  go_roundw
                  case rel => exact ⟨j + 1, by omega, by go_num, HA.out⟩
                  case measure => simp [intOf]; omega
                · go_wp2_with fail
                  refine (ringCut_any R HS3.out HR3.out HM.out hom).mono ?_
                  rintro e w6 ⟨bb, rfl, hEnd⟩
                  have HA := Lib.hid (Act3.ring HK3.out Hf.out Hfj.out HBq.out HNq.out HT3.out hEnd)
                  clear hEnd
                  go_wp2_with fail
                  go_roundw
                  case rel => exact ⟨j + 1, by omega, by go_num, HA.out⟩
                  case measure => simp [intOf]; omega
                · have hft : nth zs' (adr (cfR 60) o.h 3) = (f t : Int) := Hf.out t o HOk.out
                  have hft2 : f t ≤ 200 := by have := Hfj.out t; omega
                  go_wp2_with fail
                  refine (countUp_any C HS3.out HR3.out HM.out hom (by rw [hft]; omega)).mono ?_
                  rintro e w6 ⟨vv, kk, z6, rfl, hS, hR, hK, hcc, hco, hT⟩
                  have HB6 := Lib.hid (HBq.out.touch hT HNq.out)
                  have HS6 := Lib.hid hS
                  have HR6 := Lib.hid hR
                  have HK6 := Lib.hid (HK3.out.trans hK)
                  have HT6 := Lib.hid (HT3.out.trans (hT.mono (fun _ _ h => Or.inl h)))
                  have HC6 : Hid (∀ (s : Nat) o', os[s]? = some o' → nth z6 (adr (cfR 60) o'.h 3) = ((if s = t then f t + 1 else f s : Nat) : Int)) := Lib.hid (fun s o' ho' => by
                    by_cases e : s = t
                    · subst e
                      rw [HOk.out] at ho'
                      cases ho'
                      rw [if_pos rfl, hcc, hft]
                      omega
                    · rw [if_neg e, hco o' (List.mem_of_getElem? ho') (fun h => e (heads_inj HS3.out.heap ho' HOk.out h))]
                      exact Hf.out s o' ho')
                  have hto : t < os.length := by omega
                  have cq := HB6.out.arr hto
                  have fq := HB6.out.free t
                  have hz : q < w6.heap.size := HB6.out.lt
                  clear hS hR hK hcc hco hT
                  go_wp2_with fail
                  go_roundw
                  case rel =>
                    refine ⟨j + 1, by omega, by go_num, z6, l, fun s => if s = t then f t + 1 else f s, ?_, HR6.out, HK6.out, HC6.out, fun s => ?_, ?_, ?_⟩
                    · obtain ⟨m, hG, hh, hp, hB⟩ := HS6.out
                      have hTq := (Touch.refl (fun i => i = q) w6).setCell (p := ⟨q, t, none⟩) (fun _ => rfl) (.int .i64 ((f t : Int) + 1))
                      exact ⟨m, hG.touch hTq (fun i hi e => HNqo.out (e ▸ hi)), hh, hp, hB.setCell (p := ⟨q, t, none⟩) (Nat.le_trans HLr.out HQlo.out) _⟩
                    · show (if s = t then f t + 1 else f s) ≤ j + 1
                      have := Hfj.out s
                      have := Hfj.out t
                      split <;> omega
                    · have := HB6.out.set t (.int .i64 ((f t : Int) + 1))
                      rw [arrV_set] at this
                      rw [show arrV (fun s => Value.int .i64 (((if s = t then f t + 1 else f s : Nat) : Int))) os.length = arrV (fun s => if s = t then Value.int .i64 ((f t : Int) + 1) else Value.int .i64 ((f s : Nat) : Int)) os.length from arrV_congr (fun s _ => by
                        by_cases e : s = t
                        · rw [if_pos e, if_pos e]; rfl
                        · rw [if_neg e, if_neg e])]
                      exact this
                    · exact HT6.out.setCell (p := ⟨q, t, none⟩) (fun _ => Or.inr rfl) _
                  case measure => simp [intOf]; omega
                · go_wp2_with fail
                  refine (ringTake_any R HS3.out HR3.out HM.out).mono ?_
                  rintro e w6 ⟨bb, kk, rfl, hEnd⟩
                  have HA := Lib.hid (Act3.ring HK3.out Hf.out Hfj.out HBq.out HNq.out HT3.out hEnd)
                  clear hEnd
                  go_wp2_with fail
                  go_roundw
                  case rel => exact ⟨j + 1, by omega, by go_num, HA.out⟩
                  case measure => simp [intOf]; omega
              · obtain rfl : j = ks.length := by omega
                have HT4 := Lib.hid (HW5.out _ HT3.out)
                have HRm6 := Lib.hid (HR2.out.touch HT4.out HNR.out)
                have HR96 := Lib.hid ((HR9w.out.touch HT3.out HX9q.out))
                have A9 := Lib.hid (F.len (cfR 60) zs' pool HS3.out.wz HS3.out.heap.pl.ch)
                have HSz6 : Hid (w3.heap.size ≤ wr.heap.size) := Lib.hid (Nat.le_trans HT2.out.size HT4.out.size)
                clear hS hR hK hf hfj hb hT
                go_wp2_with fail
                generalize hw6 : wr = w6 at *
                clear hw6
                go_loopw [174] (fun i wr => ∃ k : Nat, k ≤ L.length ∧ i = .int .i64 (k : Int) ∧ HSt w p (cfR 60) zs' pool os wr ∧ Touch (inG p) w6 wr) (fun i _ => L.length - (intOf i).toNat)
                case atStart => exact ⟨0, Nat.zero_le _, rfl, HS3.out, Touch.refl _ _⟩
                case round =>
                  obtain ⟨k, hk, rfl, hS, hT⟩ := hrel
                  have HS7 := Lib.hid hS
                  have HT7 := Lib.hid hT
                  by_cases hlt2 : k < L.length
                  · have hko : k < os.length := by omega
                    obtain ⟨o, hok⟩ : ∃ o, os[k]? = some o := ⟨os[k], by simp [hko]⟩
                    obtain ⟨sn, hsn⟩ : ∃ sn, ss[k]? = some sn := ⟨ss[k]'(by omega), by simp [show k < ss.length by omega]⟩
                    have hLk : L[k]? = some ((o.h : Int) + 1) := by rw [HLe.out, List.getElem?_map, hok]; rfl
                    have hLn : nth L k = (o.h : Int) + 1 := by unfold nth; rw [List.getD_eq_getElem?_getD, hLk]; rfl
                    have hom : o ∈ os := List.mem_of_getElem? hok
                    have hRm := HRm6.out.touch hT HNR.out
                    have hRo := hRm.1
                    rw [hss] at hRo
                    obtain ⟨g, gcap, rfl, hg0, hg1, hg2, hg3⟩ := own_cells hRo hsn
                    clear hRo
                    have hSn := hRm.2.2 k o sn hok hsn
                    obtain ⟨s1, sc1, sn1, s2, sc2, sn2⟩ := sn
                    obtain ⟨e1, e2, hSn⟩ := hSn
                    have e1' : sn1 = o.np := e1
                    have e2' : sn2 = o.nd := e2
                    subst e1' e2'
                    obtain ⟨b9, o9, rfl, hb9, hc9⟩ := (HR96.out.touch hT HX9.out) k hlt2
                    rw [hLn] at hc9
                    have hcnt := Hf.out k o hok
                    have hZ : o.np ≤ 10000 ∧ o.nd ≤ 10000 := by
                      have a1 := (hS.heap.obs o hom).size
                      have e1 : fieldsI ((cfR 60).W : Int) = 120 := by decide
                      rw [e1] at a1
                      unfold Ob.f at a1
                      omega
                    have hl := lists_same HK3.out hom
                    have HSn := Lib.hid hSn
                    have HL := Lib.hid hl
                    have HCn := Lib.hid hcnt
                    have HG2 := Lib.hid hg2
                    have HG3 := Lib.hid hg3
                    have HG1 := Lib.hid hg1
                    have HGn : Hid (¬ inG p g) := Lib.hid (HNR.out g hg0)
                    clear hS hT hok hsn hLk hLn hRm hSn hl hcnt hg2 hg3 hg1 hg0
                    go_wp2_with fail
                    refine (HS7.out.look (O.see_yes _ _ _ _ o HS7.out.wz HS7.out.heap hom)).mono ?_
                    rintro e v5 ⟨a51, c51, a52, c52, rfl, r1, r2, f1, f2, f12, hb, g1, g2⟩
                    have hbx := Blk.new v5 #[.slice a51 o.np c51, .slice a52 o.nd c52] 37
                    have hbn := below_new v5 (.cells #[.slice a51 o.np c51, .slice a52 o.nd c52] 37)
                    have HS8 := Lib.hid ((HS7.out.later hb).later hbn)
                    have HBx := Lib.hid hbx
                    have HBq8 := Lib.hid (((HBq.out.touch HT7.out HNq.out).later hb).later hbn)
                    have c3 := ((below_step hb hbn).cell (p := ⟨g, k * 2, none⟩) HG1.out).trans HG2.out
                    have c4 := ((below_step hb hbn).cell (p := ⟨g, k * 2 + 1, none⟩) HG1.out).trans HG3.out
                    have HR1 := Lib.hid (r1.row.later hbn)
                    have HR2' := Lib.hid (r2.row.later hbn)
                    have HQ1 := Lib.hid ((HSn.out.1.row.later hb).later hbn)
                    have HQ2 := Lib.hid ((HSn.out.2.1.row.later hb).later hbn)
                    have c0 := HBq8.out.arr hko
                    have c1 := HBx.out.cell 0 rfl
                    have c2 := HBx.out.cell 1 rfl
                    have hz1 : v5.heap.size < (v5.alloc (.cells #[.slice a51 o.np c51, .slice a52 o.nd c52] 37)).heap.size := by simp
                    have HSx : Hid (¬ ofG p v5.heap.size) := Lib.hid ((HS7.out.later hb).notG (Nat.le_refl _))
                    have HNx : Hid (¬ inG p v5.heap.size) := Lib.hid (fun hx => HSx.out (Or.inr hx))
                    have HG9 : Hid (g < (v5.alloc (.cells #[.slice a51 o.np c51, .slice a52 o.nd c52] 37)).heap.size) := Lib.hid (by have := HG1.out; have := hb.size; simp; omega)
                    have HY1 : Hid (RowOut (inG p) a51 (ptrL (cfR 60) zs' o)) := Lib.hid (fun _ b off e hx => HS7.out.notG (f1 b off e) (Or.inr hx))
                    have HY2 : Hid (RowOut (inG p) a52 (dataL (cfR 60) zs' o)) := Lib.hid (fun _ b off e hx => HS7.out.notG (f2 b off e) (Or.inr hx))
                    have HY3 : Hid (RowOut (inG p) s1 (ptrL (cfR 60) zs o)) := Lib.hid (fun _ b off e hx => HNR.out b (HSn.out.2.2.1 b off e) hx)
                    have HY4 : Hid (RowOut (inG p) s2 (dataL (cfR 60) zs o)) := Lib.hid (fun _ b off e hx => HNR.out b (HSn.out.2.2.2 b off e) hx)
                    have HTv := Lib.hid (HT7.out.trans (Touch.of_below (X := inG p) (below_step hb hbn)))
                    have HM1 : Hid (o.nd ≤ maxLen) := Lib.hid (by unfold maxLen; omega)
                    clear hbx hbn r1 r2 hb f12 g1 g2
                    go_wp2_with fail
                    generalize hv5 : v5.alloc _ = v6 at *
                    generalize hqx : v5.heap.size = qx at *
                    clear hv5 hqx
                    have HSd := Lib.hid (HS8.out.later (show Below v6.heap.size v6 v6.drew from ⟨rfl, rfl, rfl, Nat.le_refl _, fun _ _ => rfl⟩))
                    go_region_held3 (fun w' => w'.cell? ⟨q, k, none⟩ = some (.int .i64 (f k : Int)) ∧ w'.cell? ⟨qx, 0, none⟩ = some (.slice a51 o.np c51) ∧ w'.cell? ⟨qx, 1, none⟩ = some (.slice a52 o.nd c52) ∧ w'.cell? ⟨g, k * 2, none⟩ = some (.slice s1 o.np sc1) ∧ w'.cell? ⟨g, k * 2 + 1, none⟩ = some (.slice s2 o.nd sc2)) (first | exact ⟨c0, c1, c2, c3, c4⟩ | exact ⟨d0, d1, d2, d3, d4⟩)
                      (first | (go_at_call 15; refine (of_step C HSd.out hom (f k : Int) _ HCn.out rfl).mono ?_; rintro e w8 ⟨rfl, hS, hT⟩; have hT' := hT.undrew; have HS9 := Lib.hid hS; have HBq9 := Lib.hid (HBq8.out.touch hT' HNq.out); have HBx9 := Lib.hid (HBx.out.touch hT' HNx.out); have d0 := HBq9.out.arr hko; have d1 := HBx9.out.cell 0 rfl; have d2 := HBx9.out.cell 1 rfl; have d3 := (hT'.cell (p := ⟨g, k * 2, none⟩) HG9.out HGn.out).trans c3; have d4 := (hT'.cell (p := ⟨g, k * 2 + 1, none⟩) HG9.out HGn.out).trans c4; have HT9 := Lib.hid hT'; have HGz := Lib.hid (Nat.lt_of_lt_of_le HG9.out hT'.size); clear hS hT hT') | (go_at_call 16; refine (ints_n _ _ _ _ _ _ (ptrL_length _ _ _) (HR1.out.touch HT9.out HY1.out) (HL.out.1 ▸ HQ1.out.touch HT9.out HY3.out) hZ.1).mono ?_; rintro e w9 ⟨rfl, hd⟩; have HSa := Lib.hid (HS9.out.later hd.new); have HTa := Lib.hid (HT9.out.trans (Touch.of_below (X := inG p) hd.new)); have HBqa := Lib.hid (HBq9.out.later hd.new); have HBxa := Lib.hid (HBx9.out.later hd.new); have d5 := (hd.new.cell (p := ⟨g, k * 2, none⟩) HGz.out).trans d3; have d6 := (hd.new.cell (p := ⟨g, k * 2 + 1, none⟩) HGz.out).trans d4; have d0 := HBqa.out.arr hko; have d1 := HBxa.out.cell 0 rfl; have d2 := HBxa.out.cell 1 rfl; have d3 := d5; have d4 := d6; have HGa := Lib.hid (Nat.lt_of_lt_of_le HGz.out hd.new.size); clear hd d5 d6) | (go_at_call 17; refine (same_yes _ _ _ _ _ _ _ (dataL_length _ _ _) (HR2'.out.touch HTa.out HY2.out) (HL.out.2 ▸ HQ2.out.touch HTa.out HY4.out) HM1.out).mono ?_; rintro e wb ⟨rfl, hd⟩; have HSb := Lib.hid (HSa.out.later hd.new); have HTb := Lib.hid (HTa.out.trans (Touch.of_below (X := inG p) hd.new)); have HBqb := Lib.hid (HBqa.out.later hd.new); have HBxb := Lib.hid (HBxa.out.later hd.new); have d5 := (hd.new.cell (p := ⟨g, k * 2, none⟩) HGa.out).trans d3; have d6 := (hd.new.cell (p := ⟨g, k * 2 + 1, none⟩) HGa.out).trans d4; have d0 := HBqb.out.arr hko; have d1 := HBxb.out.cell 0 rfl; have d2 := HBxb.out.cell 1 rfl; have d3 := d5; have d4 := d6; clear hd d5 d6))
                    have HSb := HSb
                    go_wp2_with fail
                    go_roundw
                    case rel => exact ⟨k + 1, by omega, by go_num, HSb.out, HTv.out.trans HTb.out⟩
                    case measure => simp [intOf]; omega
                  · obtain rfl : k = L.length := by omega
                    clear hS hT
                    go_wp2_with fail
                    refine (HS7.out.act0 A9.out).mono ?_
                    rintro e w8 ⟨rfl, hS, _⟩
                    have HB8 := Lib.hid hS.below
                    clear hS
                    have e60 : (60 - (pool.length : Int)) + (pool.length : Int) = 60 := by omega
                    go_wp2_with fail
                    go_ret
                    exact ⟨rfl, HB8.out⟩

end Go.Proofs.Ytgmbamehmecnlaa.Pk
