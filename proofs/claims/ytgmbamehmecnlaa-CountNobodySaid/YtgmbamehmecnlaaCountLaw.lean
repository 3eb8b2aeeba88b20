/-
  Layer 12: the laws' opened ground and the document's world beside it; the chapter's example.
-/
import Derived.Test.YtgmbamehmecnlaaCountMath
import Derived.Test.YtgmbamehmecnlaaObjApartF
import Derived.Test.YtgmbamehmecnlaaPoolBegun
namespace Go.Proofs.Ytgmbamehmecnlaa.Pk
open Go.RowKit
set_option linter.unusedVariables false
set_option linter.unusedSimpArgs false

/-- The document's new world: its two boxes, and the row of all blocks. -/
def NewWorld (w : World) (n v : Nat) (e : Ending) (w' : World) : Prop :=
  ∃ q h a cap, e = .returned (.pointer (some ⟨q, 0, none⟩)) ∧ Blk w' q #[.pointer (some ⟨h, 0, none⟩), .slice none 0 0, .int .i64 0, .int .i64 0, .int .i64 0, .int .i64 0, .int .i64 0, .int .i64 0, .int .i64 0, .int .i64 0, .int .i64 0, .slice none 0 0, .slice none 0 0, .int .i64 0] 113 ∧
    Blk w' h #[.int .i64 (n : Int), .int .i64 (v : Int), .slice a n cap, .slice none 0 0] 144 ∧ Row w' .i64 a (ints (List.range n)) ∧ (∀ b off, a = some ⟨b, off, none⟩ → w.heap.size ≤ b) ∧ w.heap.size ≤ h ∧ w.heap.size ≤ q ∧ q ≠ h ∧ Below w.heap.size w w'
theorem refHeapNew_any (n v : Nat) (w : World) (hn : n ≤ 10000) :
    Calls Try.prog 79 #[.int .i64 (n : Int), .int .i64 (v : Int)] w fun e w' => ∃ h a cap, e = .returned (.pointer (some ⟨h, 0, none⟩)) ∧ Blk w' h #[.int .i64 (n : Int), .int .i64 (v : Int), .slice a n cap, .slice none 0 0] 144 ∧ Row w' .i64 a (ints (List.range n)) ∧ (∀ b off, a = some ⟨b, off, none⟩ → w.heap.size ≤ b) ∧ w.heap.size ≤ h ∧ Below w.heap.size w w' := by
  go_enter Try.func79, Try.ntmps79
  go_wp2_with fail
  refine (refOpen_any n _ hn).mono ?_
  rintro e w1 ⟨a, cap, rfl, hr, hf, hb⟩
  have HR := Lib.hid hr
  have HF := Lib.hid hf
  have HB := Lib.hid hb
  rw [List.length_range]
  clear hr hf hb
  go_wp2_with fail
  go_ret
  exact ⟨w1.heap.size, a, cap, rfl, Blk.new _ _ _, HR.out.alloc _, HF.out, HB.out.size, HB.out.alloc HB.out.size _⟩
theorem refWorldNew_any (n v : Nat) (w : World) (hn : n ≤ 10000) :
    Calls Try.prog 44 #[.int .i64 (n : Int), .int .i64 (v : Int)] w (NewWorld w n v) := by
  go_enter Try.func44, Try.ntmps44
  go_wp2_with fail
  refine (refHeapNew_any n v _ hn).mono ?_
  rintro e w1 ⟨h, a, cap, rfl, hk, hr, hf, hh, hb⟩
  have HK := Lib.hid hk
  have HR := Lib.hid hr
  have HF := Lib.hid hf
  have HB := Lib.hid hb
  have HH := Lib.hid hh
  clear hr hf hb hk hh
  go_wp2_with fail
  go_ret
  exact ⟨w1.heap.size, h, a, cap, rfl, Blk.new _ _ _, HK.out.alloc _, HR.out.alloc _, HF.out, HH.out, HB.out.size, by have := HK.out.lt; omega, HB.out.alloc HB.out.size _⟩

/-- The end of the laws' Opened. -/
def OpenW (w : World) (c : Cf) (e : Ending) (w' : World) : Prop :=
  ∃ p zs q w1, e = .returned (.tuple #[.pointer (some ⟨Pl.a p, 0, none⟩), .pointer (some ⟨q, 0, none⟩), .bool true]) ∧ HSt w p c zs (List.range c.N) [] w' ∧ w.heap.size ≤ w1.heap.size ∧ (∀ i, w1.heap.size ≤ i → ¬ ofG p i) ∧ NewWorld w1 c.N c.W (.returned (.pointer (some ⟨q, 0, none⟩))) w'
set_option maxHeartbeats 1000000 in
theorem openedW_any (F : PoolFns) (c : Cf) (w : World) (hm : c.May) (hn : c.N ≤ 10000) : Calls Try.prog 9 #[c.val] w (OpenW w c) := by
  have hg := gnew_yes c (w.alloc (.cells #[.int .i64 (c.N : Int), .int .i64 (c.W : Int), .int .i64 (c.R : Int), .int .i64 (c.K : Int)] 29)) hm
  unfold Cf.val at hg ⊢
  have HGN := Lib.hid hg
  obtain ⟨zo, hzo, hOp⟩ := F.open_yes c hm
  obtain ⟨dO, _, HO⟩ := hzo
  have DO := Lib.hid (fun p m w hG => HO p m w hG)
  have HOp := Lib.hid hOp
  have HBk0 := Lib.hid (Blk.new w #[.int .i64 (c.N : Int), .int .i64 (c.W : Int), .int .i64 (c.R : Int), .int .i64 (c.K : Int)] 29)
  clear hg HO hOp
  go_enter Try.func9, Try.ntmps9
  go_wp2_with fail
  refine HGN.out.mono ?_
  rintro e w1 ⟨p, rfl, hG, hp, hb⟩
  have HG := Lib.hid hG
  have HBk := Lib.hid (HBk0.out.later hb)
  have HP : Hid (∀ k, inG p k → w.heap.size ≤ k) := Lib.hid (fun k hk => Nat.le_trans (below_new w _).size (hp k (Or.inr hk)))
  have HNo : Hid (¬ inG p w.heap.size) := Lib.hid (fun hx => by have := hp _ (Or.inr hx); simp at this; omega)
  have HB : Hid (Below w.heap.size w w1) := Lib.hid (below_step (below_new w _) hb)
  clear hG hp hb
  go_wp2_with fail
  refine (DO.out p 0 _ HG.out).mono ?_
  rintro e w4 ⟨rfl, hG4, hT4⟩
  have HS4 : Hid (HSt w p c zo (List.range c.N) [] w4) := Lib.hid ⟨_, hG4, HOp.out.heap, HP.out, HB.out.trans (hT4.below (B := w.heap.size) HP.out HB.out.size)⟩
  have hk := HBk.out.touch hT4 HNo.out
  have c0 := hk.cell 0 rfl
  have c1 := hk.cell 1 rfl
  have hz : w.heap.size < w4.heap.size := hk.lt
  have HW := Lib.hid (refWorldNew_any c.N c.W w4 hn)
  clear hG4 hT4 hk
  go_wp2_with fail
  refine HW.out.mono ?_
  rintro e w5 hN
  have hN0 := hN
  obtain ⟨q, h, a, cap, rfl, _, _, _, _, _, _, _, hb⟩ := hN0
  have HS5 := Lib.hid (HS4.out.later hb)
  have HN := Lib.hid hN
  clear hN hb
  go_wp2_with fail
  go_ret3
  exact ⟨p, zo, q, w4, rfl, HS5.out, by omega, fun i hi => HS4.out.notG hi, HN.out⟩
theorem openedW16 (F : PoolFns) (n : Nat) (w : World) (h0 : 1 ≤ n) (h1 : n ≤ 1000) : Calls Try.prog 9 #[.agg #[.int .i64 (n : Int), .int .i64 16, .int .i64 1, .int .i64 1]] w (OpenW w (cfR n)) := openedW_any F (cfR n) w (cfR_may h0 h1) (Nat.le_trans h1 (by omega))

/-- A count is set, the rest stays as it was. -/
theorem HSt.setOwn {w wr : World} {p : Pl} {c : Cf} {zs : List Int} {pool : List Nat} {os : List Ob} {o : Ob} {v : Nat} (h : HSt w p c zs pool os wr) (hm : c.May) (ho : o ∈ os) (h3 : 3 ≤ v) (h8 : v < 8) (x : Int) : HeapAt c (zs.set (adr c o.h v) x) pool os := (h.heap.setOwn hm h.wz.len ho h3 h8 x).1

/-- The counts and the fields behind a step. -/
def Cnt (c : Cf) (zs zs' : List Int) (os : List Ob) (o : Ob) (k : Int) : Prop :=
  nth zs' (adr c o.h 3) = k ∧ (∀ o', o' ∈ os → o'.h ≠ o.h → nth zs' (adr c o'.h 3) = nth zs (adr c o'.h 3)) ∧ (∀ o' i, o' ∈ os → i < o'.f → fldV c zs' o' i = fldV c zs o' i)
theorem Cnt.refl (c : Cf) (zs : List Int) (os : List Ob) (o : Ob) : Cnt c zs zs os o (nth zs (adr c o.h 3)) := ⟨rfl, fun _ _ _ => rfl, fun _ _ _ _ => rfl⟩
theorem Cnt.trans {c : Cf} {a b d : List Int} {os : List Ob} {o : Ob} {k l : Int} (h : Cnt c a b os o k) (h' : Cnt c b d os o l) : Cnt c a d os o l :=
  ⟨h'.1, fun o' h1 h2 => (h'.2.1 o' h1 h2).trans (h.2.1 o' h1 h2), fun o' i h1 h2 => (h'.2.2 o' i h1 h2).trans (h.2.2 o' i h1 h2)⟩
theorem cnt_set {c : Cf} {zs : List Int} {pool : List Nat} {os : List Ob} {o : Ob} (h : HeapAt c zs pool os) (hm : c.May) (hz : zs.length = c.size) (ho : o ∈ os) (x : Int) : Cnt c zs (zs.set (adr c o.h 3) x) os o x := by
  have hw := hm.w
  refine ⟨nth_set_eq (by rw [hz]; exact adr_lt (h.obs o ho).hlt (by omega)) x, fun o' _ hne => nth_set_ne (fun e => hne (adr_inj (by omega) (by omega) e).1.symm) x, (h.setOwn hm hz ho (v := 3) (by decide) (by decide) x).2⟩
/-- A call that counts, in terms of a state. -/
theorem HSt.step {w wr : World} {p : Pl} {c : Cf} {zs : List Int} {pool : List Nat} {os : List Ob} {o : Ob} {f : FuncId} {args : List Value} {B : Nat} {v : Value} (h : HSt w p c zs pool os wr) (hm : c.May) (ho : o ∈ os) (x : Int) (ha : Acts c f args zs B (zs.set (adr c o.h 3) x) v) :
    Calls Try.prog f (List.toArray (.pointer (some ⟨p.a, 0, none⟩) :: args)) wr fun e w' => ∃ zs', e = .returned v ∧ HSt w p c zs' pool os w' ∧ Cnt c zs zs' os o x ∧ Touch (inG p) wr w' := by
  refine (h.act ha (h.setOwn hm ho (v := 3) (by decide) (by decide) x)).mono ?_
  rintro e w' ⟨rfl, h', hT⟩
  exact ⟨_, rfl, h', cnt_set h.heap hm h.wz.len ho x, hT⟩
section
variable {w wr : World} {p : Pl} {c : Cf} {zs : List Int} {pool : List Nat} {os : List Ob} {o : Ob}
theorem up_step (C : CountFns) (h : HSt w p c zs pool os wr) (hm : c.May) (ho : o ∈ os) {k : Int} (hk : nth zs (adr c o.h 3) = k) (hlt : k < 4294967295) (k' r : Int) (hk' : k + 1 = k') (hr : (o.h : Int) + 1 = r) :
    Calls Try.prog 13 #[.pointer (some ⟨p.a, 0, none⟩), .int .i64 r] wr fun e w' => ∃ zs', e = .returned (.tuple #[.int .i64 k', .bool true]) ∧ HSt w p c zs' pool os w' ∧ Cnt c zs zs' os o k' ∧ Touch (inG p) wr w' := by
  have A := C.up_yes c zs pool os o h.wz h.heap ho (by omega)
  rw [hk, hr, hk'] at A
  exact h.step hm ho k' A
theorem down_step (C : CountFns) (h : HSt w p c zs pool os wr) (hm : c.May) (ho : o ∈ os) {k : Int} (hk : nth zs (adr c o.h 3) = k) (h0 : k ≠ 0) (k' r : Int) (hk' : k - 1 = k') (hr : (o.h : Int) + 1 = r) :
    Calls Try.prog 14 #[.pointer (some ⟨p.a, 0, none⟩), .int .i64 r] wr fun e w' => ∃ zs', e = .returned (.tuple #[.int .i64 k', .bool true]) ∧ HSt w p c zs' pool os w' ∧ Cnt c zs zs' os o k' ∧ Touch (inG p) wr w' := by
  have A := C.down_yes c zs pool os o h.wz h.heap ho (by omega)
  rw [hk, hr, hk'] at A
  exact h.step hm ho k' A
theorem down0_step (C : CountFns) (h : HSt w p c zs pool os wr) (ho : o ∈ os) (hk : nth zs (adr c o.h 3) = 0) (r : Int) (hr : (o.h : Int) + 1 = r) :
    Calls Try.prog 14 #[.pointer (some ⟨p.a, 0, none⟩), .int .i64 r] wr fun e w' => e = .returned (.tuple #[.int .i64 0, .bool false]) ∧ HSt w p c zs pool os w' ∧ Touch (inG p) wr w' := by
  have A := C.down_zero c zs pool os o h.wz h.heap ho hk
  rw [hr] at A
  refine (h.act A h.heap).mono ?_
  rintro e w' ⟨rfl, h', hT⟩
  exact ⟨rfl, h', hT⟩
theorem of_step (C : CountFns) (h : HSt w p c zs pool os wr) (ho : o ∈ os) (k r : Int) (hk : nth zs (adr c o.h 3) = k) (hr : (o.h : Int) + 1 = r) :
    Calls Try.prog 15 #[.pointer (some ⟨p.a, 0, none⟩), .int .i64 r] wr fun e w' => e = .returned (.int .i64 k) ∧ HSt w p c zs pool os w' ∧ Touch (inG p) wr w' := by
  have A := C.of_yes c zs pool os o h.wz h.heap ho
  rw [hr, hk] at A
  refine (h.act A h.heap).mono ?_
  rintro e w' ⟨rfl, h', hT⟩
  exact ⟨rfl, h', hT⟩
end

set_option maxRecDepth 100000 in
set_option maxHeartbeats 1000000 in
theorem begun12_any (F : PoolFns) (O : ObjFns) (C : CountFns) (w : World) : Calls Try.prog 11 #[] w fun e w' => e = .returned (.bool true) ∧ Below w.heap.size w w' := by
  have HM : Hid (cfR 2).May := Lib.hid (cfR_may (by decide) (by decide))
  go_enter Try.func11, Try.ntmps11
  go_wp2_with fail
  refine (openedW16 F 2 _ (by decide) (by decide)).mono ?_
  rintro e w1 ⟨p, z0, q, _, rfl, h0, _, _, _⟩
  have H0 := Lib.hid h0
  obtain ⟨B1, z1, A1, M1⟩ := O.make_yes (cfR 2) z0 0 [] [1] [] 1 1 h0.wz h0.heap (by decide) (by decide)
  have HA1 := Lib.hid A1
  have HH1 := Lib.hid M1.heap
  have HO0 := Lib.hid (show nth z1 (adr (cfR 2) (newOb 0 1 1 []).h 3) = 0 from M1.own 3 (by decide) (by decide))
  have HO : Hid (newOb 0 1 1 [] ∈ ([] ++ [newOb 0 1 1 []] : List Ob)) := Lib.hid (by simp)
  clear h0 A1 M1
  go_wp2_with fail
  refine (H0.out.act HA1.out HH1.out).mono ?_
  rintro e w2 ⟨rfl, h1, _⟩
  have H1 := Lib.hid h1
  clear h1
  go_wp2_with fail
  refine (up_step C H1.out HM.out HO.out HO0.out (by decide) 1 1 rfl rfl).mono ?_
  rintro e w3 ⟨z2, rfl, h2, c2, _⟩
  have H2 := Lib.hid h2
  have C2 := Lib.hid c2
  clear h2 c2
  go_wp2_with fail
  refine (up_step C H2.out HM.out HO.out C2.out.1 (by decide) 2 1 rfl rfl).mono ?_
  rintro e w4 ⟨z3, rfl, h3, c3, _⟩
  have H3 := Lib.hid h3
  have C3 := Lib.hid c3
  clear h3 c3
  go_wp2_with fail
  refine (down_step C H3.out HM.out HO.out C3.out.1 (by decide) 1 1 rfl rfl).mono ?_
  rintro e w5 ⟨z4, rfl, h4, c4, _⟩
  have H4 := Lib.hid h4
  have C4 := Lib.hid c4
  clear h4 c4
  go_wp2_with fail
  refine (down_step C H4.out HM.out HO.out C4.out.1 (by decide) 0 1 rfl rfl).mono ?_
  rintro e w6 ⟨z5, rfl, h5, c5, _⟩
  have H5 := Lib.hid h5
  have C5 := Lib.hid c5
  clear h5 c5
  go_wp2_with fail
  refine (down0_step C H5.out HO.out C5.out.1 1 rfl).mono ?_
  rintro e w7 ⟨rfl, h6, _⟩
  have H6 := Lib.hid h6
  clear h6
  go_wp2_with fail
  go_ret
  exact ⟨rfl, H6.out.below⟩

end Go.Proofs.Ytgmbamehmecnlaa.Pk
