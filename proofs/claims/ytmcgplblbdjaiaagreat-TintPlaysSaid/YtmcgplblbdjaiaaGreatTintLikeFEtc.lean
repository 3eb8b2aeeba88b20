/-
  Texts laid together: TintLikeF, TintInv, TintTurnF.
-/
import Derived.Test.YtmcgplblbdjaiaaGreatRefMkEtc
import Derived.Test.YtmcgplblbdjaiaaGreatTameEtc
import Derived.OwnWalk
/-
  Layer 13: a ground and a world that stand alike are told to be (over the bundles).
-/
namespace Go.Proofs.YtmcgplblbdjaiaaGreat.Pk
open Go.RowKit
set_option linter.unusedVariables false
set_option linter.unusedSimpArgs false
set_option maxRecDepth 100000

/-- A ground and a world that stand for the same. -/
def TSt (w : World) (p : Pl) (q lo : Nat) (c : Cf) (D D2 : Wd) (wr : World) : Prop := RSt w p c D wr ∧ WRep wr lo q D2 ∧ (∀ i, lo ≤ i → ¬ ofG p i) ∧ w.heap.size ≤ lo
section
variable {w wr w' : World} {p : Pl} {q lo : Nat} {c : Cf} {D D2 D' : Wd}
theorem WRep.touch {X : Nat → Prop} (h : WRep wr lo q D) (T : Touch X wr w') (hX : ∀ b, lo ≤ b → ¬ X b) : WRep w' lo q D := by
  obtain ⟨lab, a, e, h⟩ := h
  exact ⟨lab, a, e, h.touch T (fun b hb _ => hX b hb)⟩
theorem WRep.later (h : WRep wr lo q D) (hb : Below wr.heap.size wr w') : WRep w' lo q D := by
  obtain ⟨lab, a, e, h⟩ := h
  exact ⟨lab, a, e, h.later hb⟩
theorem TSt.later (h : TSt w p q lo c D D2 wr) (hb : Below wr.heap.size wr w') : TSt w p q lo c D D2 w' := ⟨h.1.later hb, h.2.1.later hb, h.2.2⟩
/-- A call of the program's. -/
theorem TSt.does {f : FuncId} {args : List Value} {B : Nat} {v : Value} (h : TSt w p q lo c D D2 wr) (ha : Does c D f args B D' v) :
    Calls Tryz.prog f (List.toArray (.pointer (some ⟨p.a, 0, none⟩) :: args)) wr fun e w' => e = .returned v ∧ TSt w p q lo c D' D2 w' ∧ Touch (inG p) wr w' :=
  (h.1.does ha).mono fun e w' ⟨h1, h2, h3⟩ => ⟨h1, ⟨h2, h.2.1.touch h3 (fun b hb hx => h.2.2.1 b hb (Or.inr hx)), h.2.2⟩, h3⟩
/-- A call of the document's. -/
theorem TSt.world {f : FuncId} {args : Array Value} {v : Value} (h : TSt w p q lo c D D2 wr) (ha : Calls Tryz.prog f args wr (WEnd wr lo q D' v)) :
    Calls Tryz.prog f args wr fun e w' => e = .returned v ∧ TSt w p q lo c D D' w' ∧ Touch (fun b => lo ≤ b) wr w' :=
  ha.mono fun e w' ⟨h1, h2, h3⟩ => ⟨h1, ⟨h.1.touch h3 (fun i hi hx => h.2.2.1 i hx hi) (fun i hi => Nat.le_trans h.2.2.2 hi), h2, h.2.2⟩, h3⟩
/-- The world's own numbers. -/
structure Nums (wr : World) (q : Nat) (D : Wd) (ra : Option Addr) (rc : Nat) : Prop where
  c2 : wr.cell? ⟨q, 2, none⟩ = some (.int .i64 D.parity)
  c3 : wr.cell? ⟨q, 3, none⟩ = some (.int .i64 D.phase)
  c4 : wr.cell? ⟨q, 4, none⟩ = some (.int .i64 D.cursor)
  c5 : wr.cell? ⟨q, 5, none⟩ = some (.int .i64 D.field)
  c6 : wr.cell? ⟨q, 6, none⟩ = some (.int .i64 D.scan)
  c7 : wr.cell? ⟨q, 7, none⟩ = some (.int .i64 D.scanF)
  c11 : wr.cell? ⟨q, 11, none⟩ = some (.slice ra D.ring.length rc)
  rg : Row wr .i64 ra (ints D.ring)
  lt : q < wr.heap.size
  out : ∀ b off, ra = some ⟨b, off, none⟩ → 0 < D.ring.length → lo ≤ b
theorem TSt.nums (h : TSt w p q lo c D D2 wr) : ∃ ra rc, Nums (lo := lo) wr q D2 ra rc := by
  obtain ⟨lab, a, rfl, k⟩ := h.2.1
  exact ⟨a.ra, a.rc, k.c2, k.c3, k.c4, k.c5, k.c6, k.c7, k.c11, k.rg, k.wb.lt, fun b off e h0 => (k.lra h0 b off e).1⟩
theorem Nums.touch {X : Nat → Prop} {ra : Option Addr} {rc : Nat} (h : Nums (lo := lo) wr q D ra rc) (T : Touch X wr w') (hX : ∀ b, lo ≤ b → ¬ X b) (hq : lo ≤ q) : Nums (lo := lo) w' q D ra rc := by
  have hc : ∀ k, w'.cell? ⟨q, k, none⟩ = wr.cell? ⟨q, k, none⟩ := fun k => T.cell (p := ⟨q, k, none⟩) h.lt (hX q hq)
  exact ⟨by rw [hc]; exact h.c2, by rw [hc]; exact h.c3, by rw [hc]; exact h.c4, by rw [hc]; exact h.c5, by rw [hc]; exact h.c6, by rw [hc]; exact h.c7, by rw [hc]; exact h.c11, h.rg.touch T (fun h0 b off e hx => hX b (h.out b off e (by simpa [ints] using h0)) hx), Nat.lt_of_lt_of_le h.lt T.size, h.out⟩
end
/-- A register, seen. -/
theorem seereg_rep {w wr : World} {p : Pl} {c : Cf} {D : Wd} (h : RSt w p c D wr) (k : Nat) (h1 : 10 ≤ k) (h2 : k ≤ 18) (x y : Int) (hx : x = (k : Int)) (hy : D.reg k = y) :
    Calls Tryz.prog 50 #[.pointer (some ⟨p.a, 0, none⟩), .int .i64 x] wr fun e w' => e = .returned (.int .i64 y) ∧ wr = w' := by
  obtain ⟨zs, m, hG, hR, _⟩ := h
  exact seeregR p c _ k x y wr hG (by omega) hx (by rw [← hy]; exact hR.reg k h1 h2)
theorem WRep.lq {w : World} {lo q : Nat} {D : Wd} (h : WRep w lo q D) : lo ≤ q := by
  obtain ⟨lab, a, rfl, k⟩ := h
  exact k.lq.1
/-- The loop's question for one object. -/
def LQ (D : Wd) : Prop := D.ring.length ≤ 8000 ∧ D.ts.length ≤ 8000 ∧ (∀ t, t ∈ D.ts → t.h < 1000000)
theorem refs_mem {l : List Th} {x : Int} (h : x ∈ refsL l) : ∃ t, t ∈ l ∧ x = (t.h : Int) + 1 := by
  unfold refsL at h
  obtain ⟨t, ht, hx⟩ := List.mem_flatMap.1 h
  cases he : t.ended with
  | true => rw [he] at hx; simp at hx
  | false => rw [he] at hx; simp at hx; exact ⟨t, ht, hx⟩
theorem refs_in64 {D : Wd} (h : ∀ t, t ∈ D.ts → t.h < 1000000) {k : Nat} (hk : k < D.refs.length) : In64 (nth D.refs k) := by
  have : nth D.refs k = D.refs[k] := by unfold nth; simp [List.getD, hk]
  rw [this]
  obtain ⟨t, ht, e⟩ := refs_mem (List.getElem_mem hk)
  have := h t ht
  rw [e]
  unfold In64
  omega
theorem refs_len : ∀ l : List Th, (refsL l).length ≤ l.length
  | [] => by simp [refsL]
  | u :: l => by
    have h := refs_len l
    have : refsL (u :: l) = (if u.ended then [] else [(u.h : Int) + 1]) ++ refsL l := rfl
    rw [this]
    cases u.ended <;> simp <;> omega
section
variable {w : World} {lo q : Nat} {D : Wd}
theorem WRep.refs (h : WRep w lo q D) (hn : D.ts.length ≤ 10000) : Calls Tryz.prog 51 #[.pointer (some ⟨q, 0, none⟩)] w (NewRow w D.refs) := by
  obtain ⟨lab, a, rfl, k⟩ := h; exact w_refs k hn
theorem WRep.black (h : WRep w lo q D) (r : Int) : Calls Tryz.prog 52 #[.pointer (some ⟨q, 0, none⟩), .int .i64 r] w fun e w' => e = .returned (.bool (D.black r)) ∧ Drw w w' := by
  obtain ⟨lab, a, rfl, k⟩ := h; exact w_black k r
theorem WRep.dead (h : WRep w lo q D) (r : Int) : Calls Tryz.prog 53 #[.pointer (some ⟨q, 0, none⟩), .int .i64 r] w fun e w' => e = .returned (.bool (D.dead r)) ∧ Drw w w' := by
  obtain ⟨lab, a, rfl, k⟩ := h; exact w_dead k r
theorem WRep.shd (h : WRep w lo q D) (r : Int) : Calls Tryz.prog 54 #[.pointer (some ⟨q, 0, none⟩), .int .i64 r] w fun e w' => e = .returned (.int .i64 (D.shd r)) ∧ Drw w w' := by
  obtain ⟨lab, a, rfl, k⟩ := h; exact w_shd k r
theorem WRep.counted (h : WRep w lo q D) (r i : Int) : Calls Tryz.prog 49 #[.pointer (some ⟨q, 0, none⟩), .int .i64 r, .int .i64 i] w fun e w' => e = .returned (.bool (D.counted r i)) ∧ Drw w w' := by
  obtain ⟨lab, a, rfl, k⟩ := h; exact w_counted k r i
end
/-- How worlds follow one another while nothing is changed but the meter. -/
def RL (w : World) (p : Pl) (q lo : Nat) (c : Cf) (D D2 : Wd) : TX.Rel where
  r a b := (TSt w p q lo c D D2 a → TSt w p q lo c D D2 b) ∧ Touch (inG p) a b
  refl a := ⟨id, Touch.refl _ _⟩
  trans h k := ⟨fun x => k.1 (h.1 x), h.2.trans k.2⟩
  below h := ⟨fun x => x.later h, Touch.of_below h⟩
/-- A row of numbers behind lo. -/
def rowX (w : World) (p : Pl) (q lo : Nat) (c : Cf) (D D2 : Wd) (l : List Nat) (hX : ∀ b, lo ≤ b → ¬ inG p b) : TX.Fact (RL w p q lo c D D2) :=
  ⟨fun w' u => ∃ a cap, u = .slice a l.length cap ∧ Row w' .i64 a (ints l) ∧ (∀ b off, a = some ⟨b, off, none⟩ → lo ≤ b), fun w1 w2 v h ⟨a, cap, e, hr, hf⟩ => ⟨a, cap, e, hr.touch h.2 (fun _ b off e hx => hX b (hf b off e) hx), hf⟩,
    ⟨_, _, _, 0, rfl, by have := Row.lit { (default : World) with heap := Array.replicate lo (.cells #[] 0) } .i64 (ints l) 0; exact this, fun b off e => by cases e; simp⟩⟩
theorem walkT_rowX {w : World} {p : Pl} {q lo : Nat} {c : Cf} {D D2 : Wd} {l : List Nat} {hX : ∀ b, lo ≤ b → ¬ inG p b} {P : Program} {ops : Array Oper} {C : World → Prop} {K : Act → World → Prop} {o : Oper} {ls : List Oper} {fs : List (TX.Fact (RL w p q lo c D D2))} {a : Act} {known : List (World → Prop)} (hw : Region.wanted o (yielded ops a.tmps) = true)
    (h1 : ∀ w', C w' → TX.depFacts o known w' → TX.tameAt (RL w p q lo c D D2) P o a w' (rowX w p q lo c D D2 l hX).p)
    {a' : Option Addr → Nat → Act} (ha : ∀ ad cap, a.put o.dst (.slice ad l.length cap) = a' ad cap) {known' : Option Addr → List (World → Prop)} (hk : ∀ ad, known ++ [fun w' => Row w' .i64 ad (ints l) ∧ (∀ b off, ad = some ⟨b, off, none⟩ → lo ≤ b)] = known' ad)
    (h2 : ∀ ad cap, TX.walkT P ops C K ls fs (a' ad cap) (known' ad)) : TX.walkT P ops C K (o :: ls) (rowX w p q lo c D D2 l hX :: fs) a known :=
  TX.walkT_plain hw h1 fun u hu => by
    obtain ⟨_, ad, cap, rfl, _, _⟩ := hu
    have e : (fun w' => (rowX w p q lo c D D2 l hX).p w' (.slice ad l.length cap)) = fun w' : World => Row w' .i64 ad (ints l) ∧ (∀ b off, ad = some ⟨b, off, none⟩ → lo ≤ b) := by
      funext w'
      refine propext ⟨?_, fun h => ⟨ad, cap, rfl, h.1, h.2⟩⟩
      rintro ⟨ad', cap', h, hr, hf⟩
      cases h
      exact ⟨hr, hf⟩
    rw [e, ha, hk]
    exact h2 ad cap
theorem upon_row_call {w w' : World} {p : Pl} {q lo : Nat} {c : Cf} {D D2 : Wd} {l : List Nat} {hX : ∀ b, lo ≤ b → ¬ inG p b} {P : Program} {f : FuncId} {args : Array Value} {r : Result Next} (h : r = .ok (.enter f args) w')
    (hc : Calls P f args w' fun e w'' => ∃ v, e = .returned v ∧ (RL w p q lo c D D2).r w' w'' ∧ (rowX w p q lo c D D2 l hX).p w'' v) : TX.tameUpon (RL w p q lo c D D2) P w' (rowX w p q lo c D D2 l hX).p r := by
  rw [h]; exact hc
set_option maxHeartbeats 4000000 in
theorem tintLike_any (R : RingFns) (T : TintFns) {w wr : World} {p : Pl} {q lo : Nat} {c : Cf} {D : Wd} (h : TSt w p q lo c D D wr) (hl : LQ D) :
    Calls Tryz.prog 12 #[.pointer (some ⟨p.a, 0, none⟩), .pointer (some ⟨q, 0, none⟩)] wr fun e w' => e = .returned (.bool true) ∧ TSt w p q lo c D D w' ∧ Touch (inG p) wr w' := by
  have HAt := Lib.hid (T.at_ c D)
  have H0 := Lib.hid h
  have HL := Lib.hid hl
  have HQ := Lib.hid h.2.1.lq
  have HX : Hid (∀ b, lo ≤ b → ¬ inG p b) := Lib.hid (fun b hb hx => h.2.2.1 b hb (Or.inr hx))
  clear h hl
  go_enter Tryz.func12, Tryz.ntmps12
  go_wp2_with fail
  refine (H0.out.does HAt.out).mono ?_
  rintro e w1 ⟨rfl, hS, hT⟩
  have H1 := Lib.hid hS
  have HT1 := Lib.hid hT
  clear hS hT
  obtain ⟨ra, rc, hn⟩ := H1.out.nums
  have HN := Lib.hid hn
  have HNs : Hid (∀ w', (RL w p q lo c D D).r w1 w' → Nums (lo := lo) w' q D ra rc) := Lib.hid (fun w' h => hn.touch h.2 HX.out HQ.out)
  have cc2 := fun w' (h : (RL w p q lo c D D).r w1 w') => (HNs.out w' h).c2
  have cc3 := fun w' (h : (RL w p q lo c D D).r w1 w') => (HNs.out w' h).c3
  have cc4 := fun w' (h : (RL w p q lo c D D).r w1 w') => (HNs.out w' h).c4
  have cc5 := fun w' (h : (RL w p q lo c D D).r w1 w') => (HNs.out w' h).c5
  have cc6 := fun w' (h : (RL w p q lo c D D).r w1 w') => (HNs.out w' h).c6
  have cc7 := fun w' (h : (RL w p q lo c D D).r w1 w') => (HNs.out w' h).c7
  have cc11 := fun w' (h : (RL w p q lo c D D).r w1 w') => (HNs.out w' h).c11
  have HDo : ∀ {f : FuncId} {args : List Value} {B : Nat} {v : Value}, Does c D f args B D v → ∀ w', (RL w p q lo c D D).r w1 w' → Calls Tryz.prog f (List.toArray (.pointer (some ⟨p.a, 0, none⟩) :: args)) w' fun e w'' => e = .returned v ∧ (RL w p q lo c D D).r w' w'' := fun ha w' h => ((h.1 H1.out).does ha).mono fun e w'' ⟨e1, e2, e3⟩ => ⟨e1, fun _ => e2, e3⟩
  have HPar := HDo (T.parity c D)
  have HPh := HDo (T.phase c D)
  have HS14 : ∀ w', (RL w p q lo c D D).r w1 w' → Calls Tryz.prog 50 #[.pointer (some ⟨p.a, 0, none⟩), .int .i64 14] w' fun e w'' => e = .returned (.int .i64 D.scan) ∧ (RL w p q lo c D D).r w' w'' := fun w' h => (seereg_rep (h.1 H1.out).1 14 (by omega) (by omega) _ D.scan rfl rfl).mono fun e w'' ⟨e1, e2⟩ => ⟨e1, by subst e2; exact (RL w p q lo c D D).refl _⟩
  have HS15 : ∀ w', (RL w p q lo c D D).r w1 w' → Calls Tryz.prog 50 #[.pointer (some ⟨p.a, 0, none⟩), .int .i64 15] w' fun e w'' => e = .returned (.int .i64 D.scanF) ∧ (RL w p q lo c D D).r w' w'' := fun w' h => (seereg_rep (h.1 H1.out).1 15 (by omega) (by omega) _ D.scanF rfl rfl).mono fun e w'' ⟨e1, e2⟩ => ⟨e1, by subst e2; exact (RL w p q lo c D D).refl _⟩
  have HLi : ∀ w', (RL w p q lo c D D).r w1 w' → Calls Tryz.prog 34 #[.pointer (some ⟨p.a, 0, none⟩)] w' fun e w'' => ∃ v, e = .returned v ∧ (RL w p q lo c D D).r w' w'' ∧ (rowX w p q lo c D D D.ring HX.out).p w'' v := fun w' h => (RSt.ringList R (h.1 H1.out).1).mono fun e w'' ⟨a, cap, e1, e2, e3, e4⟩ => ⟨_, e1, (RL w p q lo c D D).below e4, a, cap, rfl, e2, fun b off e => by
    obtain ⟨_, ⟨lab, aa, ea, hw⟩, _, _⟩ := h.1 H1.out
    have := hw.lq.1
    have := hw.wb.lt
    have := e3 b off e
    omega⟩
  have HIn : ∀ w', (RL w p q lo c D D).r w1 w' → ∀ ad cap, Row w' .i64 ad (ints D.ring) → Calls Tryz.prog 33 #[.slice ad D.ring.length cap, .slice ra D.ring.length rc] w' fun e w'' => e = .returned (.bool true) ∧ (RL w p q lo c D D).r w' w'' := fun w' h ad cap hr => (ints_n _ _ _ _ _ _ (ints_length _) hr (HNs.out w' h).rg (by have := HL.out.1; omega)).mono fun e w'' ⟨e1, e2⟩ => ⟨e1, (RL w p q lo c D D).below e2.new⟩
  clear hn HDo
  go_wp2_with fail
  refine TX.wp_region_tame_all [TX.Fact.is (.pointer (some ⟨p.a, 0, none⟩)), TX.Fact.is (.int .i64 (D.parity)), TX.Fact.is (.pointer (some ⟨q, 0, none⟩)), TX.Fact.is (.pointer (some ⟨q, 0, none⟩)), TX.Fact.is (.pointer (some ⟨q, 2, none⟩)), TX.Fact.is (.int .i64 (D.parity)), TX.Fact.is (.bool false), TX.Fact.is (.bool false), TX.Fact.is (.pointer (some ⟨p.a, 0, none⟩)), TX.Fact.is (.int .i64 (D.phase)), TX.Fact.is (.pointer (some ⟨q, 0, none⟩)), TX.Fact.is (.pointer (some ⟨q, 0, none⟩)), TX.Fact.is (.pointer (some ⟨q, 3, none⟩)), TX.Fact.is (.int .i64 (D.phase)), TX.Fact.is (.bool false), TX.Fact.is (.bool false), TX.Fact.is (.bool false), TX.Fact.is (.int .i64 (D.cursor)), TX.Fact.is (.pointer (some ⟨q, 0, none⟩)), TX.Fact.is (.pointer (some ⟨q, 0, none⟩)), TX.Fact.is (.pointer (some ⟨q, 4, none⟩)), TX.Fact.is (.int .i64 (D.cursor)), TX.Fact.is (.bool false), TX.Fact.is (.bool false), TX.Fact.is (.bool false), TX.Fact.is (.int .i64 (D.field)), TX.Fact.is (.pointer (some ⟨q, 0, none⟩)), TX.Fact.is (.pointer (some ⟨q, 0, none⟩)), TX.Fact.is (.pointer (some ⟨q, 5, none⟩)), TX.Fact.is (.int .i64 (D.field)), TX.Fact.is (.bool false), TX.Fact.is (.bool false), TX.Fact.is (.bool false), TX.Fact.is (.pointer (some ⟨p.a, 0, none⟩)), TX.Fact.is (.int .i64 (D.scan)), TX.Fact.is (.pointer (some ⟨q, 0, none⟩)), TX.Fact.is (.pointer (some ⟨q, 0, none⟩)), TX.Fact.is (.pointer (some ⟨q, 6, none⟩)), TX.Fact.is (.int .i64 (D.scan)), TX.Fact.is (.bool false), TX.Fact.is (.bool false), TX.Fact.is (.bool false), TX.Fact.is (.pointer (some ⟨p.a, 0, none⟩)), TX.Fact.is (.int .i64 (D.scanF)), TX.Fact.is (.pointer (some ⟨q, 0, none⟩)), TX.Fact.is (.pointer (some ⟨q, 0, none⟩)), TX.Fact.is (.pointer (some ⟨q, 7, none⟩)), TX.Fact.is (.int .i64 (D.scanF)), TX.Fact.is (.bool false), TX.Fact.is (.bool false), TX.Fact.is (.bool false), TX.Fact.is (.pointer (some ⟨p.a, 0, none⟩)), rowX w p q lo c D D D.ring HX.out, TX.Fact.is (.pointer (some ⟨q, 0, none⟩)), TX.Fact.is (.pointer (some ⟨q, 0, none⟩)), TX.Fact.is (.pointer (some ⟨q, 11, none⟩)), TX.Fact.is (.slice ra D.ring.length rc), TX.Fact.is (.bool true), TX.Fact.is (.bool false), TX.Fact.is (.bool false)] (by kernel_rfl) (by kernel_rfl) rfl (by kernel_rfl) (fun ops K2 hops hK => ?_)
  refine TX.walkT_is (TX.wantedN rfl) (fun w' hC hd => TX.tame_move _ (.inl rfl) rfl) (by go_frame; rfl) (by simp only [List.nil_append, List.cons_append]; rfl) ?_
  refine TX.walkT_is (TX.wantedN rfl) (fun w' hC hd => TX.tame_1 14 (.pointer (some ⟨p.a, 0, none⟩)) rfl (fun ρ hρ hf e0 => TX.upon_call_rel (f := 19) (by go_simp) (HPar w' hC))) (by go_frame; rfl) (by simp only [List.nil_append, List.cons_append]; rfl) ?_
  refine TX.walkT_is (TX.wantedN rfl) (fun w' hC hd => TX.tame_move _ (.inl rfl) rfl) (by go_frame; rfl) (by simp only [List.nil_append, List.cons_append]; rfl) ?_
  refine TX.walkT_is (TX.wantedN rfl) (fun w' hC hd => TX.tame_1 16 (.pointer (some ⟨q, 0, none⟩)) rfl (fun ρ hρ hf e0 => TX.upon_is (by go_simp))) (by go_frame; rfl) (by simp only [List.nil_append, List.cons_append]; rfl) ?_
  refine TX.walkT_is (TX.wantedN rfl) (fun w' hC hd => TX.tame_1 17 (.pointer (some ⟨q, 0, none⟩)) rfl (fun ρ hρ hf e0 => TX.upon_is (by go_simp))) (by go_frame; rfl) (by simp only [List.nil_append, List.cons_append]; rfl) ?_
  refine TX.walkT_is (TX.wantedN rfl) (fun w' hC hd => TX.tame_1 18 (.pointer (some ⟨q, 2, none⟩)) rfl (fun ρ hρ hf e0 => TX.upon_is (by have hc0 := cc2 w' hC; go_simp))) (by go_frame; rfl) (by simp only [List.nil_append, List.cons_append]; rfl) ?_
  refine TX.walkT_is (TX.wantedN rfl) (fun w' hC hd => TX.tame_2 15 (.int .i64 (D.parity)) 19 (.int .i64 (D.parity)) rfl rfl (fun ρ hρ hf e0 e1 => TX.upon_is (by have hb0 := (show ((D.parity : Int) != D.parity) = false by simp); go_simp))) (by go_frame; rfl) (by simp only [List.nil_append, List.cons_append]; rfl) ?_
  refine TX.walkT_is (TX.wantedN rfl) (fun w' hC hd => TX.tame_move _ (.inl rfl) rfl) (by go_frame; rfl) (by simp only [List.nil_append, List.cons_append]; rfl) ?_
  refine TX.walkT_is (TX.wantedT hops rfl rfl rfl rfl) (fun w' hC hd => TX.tame_move _ (.inl rfl) rfl) (by go_frame; rfl) (by simp only [List.nil_append, List.cons_append]; rfl) ?_
  refine TX.walkT_is (TX.wantedT hops rfl rfl rfl rfl) (fun w' hC hd => TX.tame_1 22 (.pointer (some ⟨p.a, 0, none⟩)) rfl (fun ρ hρ hf e0 => TX.upon_call_rel (f := 27) (by go_simp) (HPh w' hC))) (by go_frame; rfl) (by simp only [List.nil_append, List.cons_append]; rfl) ?_
  refine TX.walkT_is (TX.wantedT hops rfl rfl rfl rfl) (fun w' hC hd => TX.tame_move _ (.inl rfl) rfl) (by go_frame; rfl) (by simp only [List.nil_append, List.cons_append]; rfl) ?_
  refine TX.walkT_is (TX.wantedT hops rfl rfl rfl rfl) (fun w' hC hd => TX.tame_1 24 (.pointer (some ⟨q, 0, none⟩)) rfl (fun ρ hρ hf e0 => TX.upon_is (by go_simp))) (by go_frame; rfl) (by simp only [List.nil_append, List.cons_append]; rfl) ?_
  refine TX.walkT_is (TX.wantedT hops rfl rfl rfl rfl) (fun w' hC hd => TX.tame_1 25 (.pointer (some ⟨q, 0, none⟩)) rfl (fun ρ hρ hf e0 => TX.upon_is (by go_simp))) (by go_frame; rfl) (by simp only [List.nil_append, List.cons_append]; rfl) ?_
  refine TX.walkT_is (TX.wantedT hops rfl rfl rfl rfl) (fun w' hC hd => TX.tame_1 26 (.pointer (some ⟨q, 3, none⟩)) rfl (fun ρ hρ hf e0 => TX.upon_is (by have hc0 := cc3 w' hC; go_simp))) (by go_frame; rfl) (by simp only [List.nil_append, List.cons_append]; rfl) ?_
  refine TX.walkT_is (TX.wantedT hops rfl rfl rfl rfl) (fun w' hC hd => TX.tame_2 23 (.int .i64 (D.phase)) 27 (.int .i64 (D.phase)) rfl rfl (fun ρ hρ hf e0 e1 => TX.upon_is (by have hb0 := (show ((D.phase : Int) != D.phase) = false by simp); go_simp))) (by go_frame; rfl) (by simp only [List.nil_append, List.cons_append]; rfl) ?_
  refine TX.walkT_is (TX.wantedN rfl) (fun w' hC hd => TX.tame_pick _ _ _ false rfl rfl rfl) (by go_frame; rfl) (by simp only [List.nil_append, List.cons_append]; rfl) ?_
  refine TX.walkT_is (TX.wantedN rfl) (fun w' hC hd => TX.tame_move _ (.inl rfl) rfl) (by go_frame; rfl) (by simp only [List.nil_append, List.cons_append]; rfl) ?_
  refine TX.walkT_is (TX.wantedT hops rfl rfl rfl rfl) (fun w' hC hd => TX.tame_move _ (.inl rfl) rfl) (by go_frame; rfl) (by simp only [List.nil_append, List.cons_append]; rfl) ?_
  refine TX.walkT_is (TX.wantedT hops rfl rfl rfl rfl) (fun w' hC hd => TX.tame_move _ (.inl rfl) rfl) (by go_frame; rfl) (by simp only [List.nil_append, List.cons_append]; rfl) ?_
  refine TX.walkT_is (TX.wantedT hops rfl rfl rfl rfl) (fun w' hC hd => TX.tame_1 32 (.pointer (some ⟨q, 0, none⟩)) rfl (fun ρ hρ hf e0 => TX.upon_is (by go_simp))) (by go_frame; rfl) (by simp only [List.nil_append, List.cons_append]; rfl) ?_
  refine TX.walkT_is (TX.wantedT hops rfl rfl rfl rfl) (fun w' hC hd => TX.tame_1 33 (.pointer (some ⟨q, 0, none⟩)) rfl (fun ρ hρ hf e0 => TX.upon_is (by go_simp))) (by go_frame; rfl) (by simp only [List.nil_append, List.cons_append]; rfl) ?_
  refine TX.walkT_is (TX.wantedT hops rfl rfl rfl rfl) (fun w' hC hd => TX.tame_1 34 (.pointer (some ⟨q, 4, none⟩)) rfl (fun ρ hρ hf e0 => TX.upon_is (by have hc0 := cc4 w' hC; go_simp))) (by go_frame; rfl) (by simp only [List.nil_append, List.cons_append]; rfl) ?_
  refine TX.walkT_is (TX.wantedT hops rfl rfl rfl rfl) (fun w' hC hd => TX.tame_2 31 (.int .i64 (D.cursor)) 35 (.int .i64 (D.cursor)) rfl rfl (fun ρ hρ hf e0 e1 => TX.upon_is (by have hb0 := (show ((D.cursor : Int) != D.cursor) = false by simp); go_simp))) (by go_frame; rfl) (by simp only [List.nil_append, List.cons_append]; rfl) ?_
  refine TX.walkT_is (TX.wantedN rfl) (fun w' hC hd => TX.tame_pick _ _ _ false rfl rfl rfl) (by go_frame; rfl) (by simp only [List.nil_append, List.cons_append]; rfl) ?_
  refine TX.walkT_is (TX.wantedN rfl) (fun w' hC hd => TX.tame_move _ (.inl rfl) rfl) (by go_frame; rfl) (by simp only [List.nil_append, List.cons_append]; rfl) ?_
  refine TX.walkT_is (TX.wantedT hops rfl rfl rfl rfl) (fun w' hC hd => TX.tame_move _ (.inl rfl) rfl) (by go_frame; rfl) (by simp only [List.nil_append, List.cons_append]; rfl) ?_
  refine TX.walkT_is (TX.wantedT hops rfl rfl rfl rfl) (fun w' hC hd => TX.tame_move _ (.inl rfl) rfl) (by go_frame; rfl) (by simp only [List.nil_append, List.cons_append]; rfl) ?_
  refine TX.walkT_is (TX.wantedT hops rfl rfl rfl rfl) (fun w' hC hd => TX.tame_1 40 (.pointer (some ⟨q, 0, none⟩)) rfl (fun ρ hρ hf e0 => TX.upon_is (by go_simp))) (by go_frame; rfl) (by simp only [List.nil_append, List.cons_append]; rfl) ?_
  refine TX.walkT_is (TX.wantedT hops rfl rfl rfl rfl) (fun w' hC hd => TX.tame_1 41 (.pointer (some ⟨q, 0, none⟩)) rfl (fun ρ hρ hf e0 => TX.upon_is (by go_simp))) (by go_frame; rfl) (by simp only [List.nil_append, List.cons_append]; rfl) ?_
  refine TX.walkT_is (TX.wantedT hops rfl rfl rfl rfl) (fun w' hC hd => TX.tame_1 42 (.pointer (some ⟨q, 5, none⟩)) rfl (fun ρ hρ hf e0 => TX.upon_is (by have hc0 := cc5 w' hC; go_simp))) (by go_frame; rfl) (by simp only [List.nil_append, List.cons_append]; rfl) ?_
  refine TX.walkT_is (TX.wantedT hops rfl rfl rfl rfl) (fun w' hC hd => TX.tame_2 39 (.int .i64 (D.field)) 43 (.int .i64 (D.field)) rfl rfl (fun ρ hρ hf e0 e1 => TX.upon_is (by have hb0 := (show ((D.field : Int) != D.field) = false by simp); go_simp))) (by go_frame; rfl) (by simp only [List.nil_append, List.cons_append]; rfl) ?_
  refine TX.walkT_is (TX.wantedN rfl) (fun w' hC hd => TX.tame_pick _ _ _ false rfl rfl rfl) (by go_frame; rfl) (by simp only [List.nil_append, List.cons_append]; rfl) ?_
  refine TX.walkT_is (TX.wantedN rfl) (fun w' hC hd => TX.tame_move _ (.inl rfl) rfl) (by go_frame; rfl) (by simp only [List.nil_append, List.cons_append]; rfl) ?_
  refine TX.walkT_is (TX.wantedT hops rfl rfl rfl rfl) (fun w' hC hd => TX.tame_move _ (.inl rfl) rfl) (by go_frame; rfl) (by simp only [List.nil_append, List.cons_append]; rfl) ?_
  refine TX.walkT_is (TX.wantedT hops rfl rfl rfl rfl) (fun w' hC hd => TX.tame_1 47 (.pointer (some ⟨p.a, 0, none⟩)) rfl (fun ρ hρ hf e0 => TX.upon_call_rel (f := 50) (args := #[.pointer (some ⟨p.a, 0, none⟩), .int .i64 14]) (by go_simp) (HS14 w' hC))) (by go_frame; rfl) (by simp only [List.nil_append, List.cons_append]; rfl) ?_
  refine TX.walkT_is (TX.wantedT hops rfl rfl rfl rfl) (fun w' hC hd => TX.tame_move _ (.inl rfl) rfl) (by go_frame; rfl) (by simp only [List.nil_append, List.cons_append]; rfl) ?_
  refine TX.walkT_is (TX.wantedT hops rfl rfl rfl rfl) (fun w' hC hd => TX.tame_1 49 (.pointer (some ⟨q, 0, none⟩)) rfl (fun ρ hρ hf e0 => TX.upon_is (by go_simp))) (by go_frame; rfl) (by simp only [List.nil_append, List.cons_append]; rfl) ?_
  refine TX.walkT_is (TX.wantedT hops rfl rfl rfl rfl) (fun w' hC hd => TX.tame_1 50 (.pointer (some ⟨q, 0, none⟩)) rfl (fun ρ hρ hf e0 => TX.upon_is (by go_simp))) (by go_frame; rfl) (by simp only [List.nil_append, List.cons_append]; rfl) ?_
  refine TX.walkT_is (TX.wantedT hops rfl rfl rfl rfl) (fun w' hC hd => TX.tame_1 51 (.pointer (some ⟨q, 6, none⟩)) rfl (fun ρ hρ hf e0 => TX.upon_is (by have hc0 := cc6 w' hC; go_simp))) (by go_frame; rfl) (by simp only [List.nil_append, List.cons_append]; rfl) ?_
  refine TX.walkT_is (TX.wantedT hops rfl rfl rfl rfl) (fun w' hC hd => TX.tame_2 48 (.int .i64 (D.scan)) 52 (.int .i64 (D.scan)) rfl rfl (fun ρ hρ hf e0 e1 => TX.upon_is (by have hb0 := (show ((D.scan : Int) != D.scan) = false by simp); go_simp))) (by go_frame; rfl) (by simp only [List.nil_append, List.cons_append]; rfl) ?_
  refine TX.walkT_is (TX.wantedN rfl) (fun w' hC hd => TX.tame_pick _ _ _ false rfl rfl rfl) (by go_frame; rfl) (by simp only [List.nil_append, List.cons_append]; rfl) ?_
  refine TX.walkT_is (TX.wantedN rfl) (fun w' hC hd => TX.tame_move _ (.inl rfl) rfl) (by go_frame; rfl) (by simp only [List.nil_append, List.cons_append]; rfl) ?_
  refine TX.walkT_is (TX.wantedT hops rfl rfl rfl rfl) (fun w' hC hd => TX.tame_move _ (.inl rfl) rfl) (by go_frame; rfl) (by simp only [List.nil_append, List.cons_append]; rfl) ?_
  refine TX.walkT_is (TX.wantedT hops rfl rfl rfl rfl) (fun w' hC hd => TX.tame_1 56 (.pointer (some ⟨p.a, 0, none⟩)) rfl (fun ρ hρ hf e0 => TX.upon_call_rel (f := 50) (args := #[.pointer (some ⟨p.a, 0, none⟩), .int .i64 15]) (by go_simp) (HS15 w' hC))) (by go_frame; rfl) (by simp only [List.nil_append, List.cons_append]; rfl) ?_
  refine TX.walkT_is (TX.wantedT hops rfl rfl rfl rfl) (fun w' hC hd => TX.tame_move _ (.inl rfl) rfl) (by go_frame; rfl) (by simp only [List.nil_append, List.cons_append]; rfl) ?_
  refine TX.walkT_is (TX.wantedT hops rfl rfl rfl rfl) (fun w' hC hd => TX.tame_1 58 (.pointer (some ⟨q, 0, none⟩)) rfl (fun ρ hρ hf e0 => TX.upon_is (by go_simp))) (by go_frame; rfl) (by simp only [List.nil_append, List.cons_append]; rfl) ?_
  refine TX.walkT_is (TX.wantedT hops rfl rfl rfl rfl) (fun w' hC hd => TX.tame_1 59 (.pointer (some ⟨q, 0, none⟩)) rfl (fun ρ hρ hf e0 => TX.upon_is (by go_simp))) (by go_frame; rfl) (by simp only [List.nil_append, List.cons_append]; rfl) ?_
  refine TX.walkT_is (TX.wantedT hops rfl rfl rfl rfl) (fun w' hC hd => TX.tame_1 60 (.pointer (some ⟨q, 7, none⟩)) rfl (fun ρ hρ hf e0 => TX.upon_is (by have hc0 := cc7 w' hC; go_simp))) (by go_frame; rfl) (by simp only [List.nil_append, List.cons_append]; rfl) ?_
  refine TX.walkT_is (TX.wantedT hops rfl rfl rfl rfl) (fun w' hC hd => TX.tame_2 57 (.int .i64 (D.scanF)) 61 (.int .i64 (D.scanF)) rfl rfl (fun ρ hρ hf e0 e1 => TX.upon_is (by have hb0 := (show ((D.scanF : Int) != D.scanF) = false by simp); go_simp))) (by go_frame; rfl) (by simp only [List.nil_append, List.cons_append]; rfl) ?_
  refine TX.walkT_is (TX.wantedN rfl) (fun w' hC hd => TX.tame_pick _ _ _ false rfl rfl rfl) (by go_frame; rfl) (by simp only [List.nil_append, List.cons_append]; rfl) ?_
  refine TX.walkT_is (TX.wantedN rfl) (fun w' hC hd => TX.tame_move _ (.inl rfl) rfl) (by go_frame; rfl) (by simp only [List.nil_append, List.cons_append]; rfl) ?_
  refine TX.walkT_is (TX.wantedT hops rfl rfl rfl rfl) (fun w' hC hd => TX.tame_move _ (.inl rfl) rfl) (by go_frame; rfl) (by simp only [List.nil_append, List.cons_append]; rfl) ?_
  refine walkT_rowX (TX.wantedT hops rfl rfl rfl rfl) (fun w' hC hd => TX.tame_1 65 (.pointer (some ⟨p.a, 0, none⟩)) rfl (fun ρ hρ hf e0 => upon_row_call (f := 34) (by go_simp) (HLi w' hC))) (fun ad cap => (by go_frame; rfl)) (fun ad => (by simp only [List.nil_append, List.cons_append]; rfl)) (fun ad6 cap6 => ?_)
  refine TX.walkT_is (TX.wantedT hops rfl rfl rfl rfl) (fun w' hC hd => TX.tame_move _ (.inl rfl) rfl) (by go_frame; rfl) (by simp only [List.nil_append, List.cons_append]; rfl) ?_
  refine TX.walkT_is (TX.wantedT hops rfl rfl rfl rfl) (fun w' hC hd => TX.tame_1 67 (.pointer (some ⟨q, 0, none⟩)) rfl (fun ρ hρ hf e0 => TX.upon_is (by go_simp))) (by go_frame; rfl) (by simp only [List.nil_append, List.cons_append]; rfl) ?_
  refine TX.walkT_is (TX.wantedT hops rfl rfl rfl rfl) (fun w' hC hd => TX.tame_1 68 (.pointer (some ⟨q, 0, none⟩)) rfl (fun ρ hρ hf e0 => TX.upon_is (by go_simp))) (by go_frame; rfl) (by simp only [List.nil_append, List.cons_append]; rfl) ?_
  refine TX.walkT_is (TX.wantedT hops rfl rfl rfl rfl) (fun w' hC hd => TX.tame_1 69 (.pointer (some ⟨q, 11, none⟩)) rfl (fun ρ hρ hf e0 => TX.upon_is (by have hc0 := cc11 w' hC; go_simp))) (by go_frame; rfl) (by simp only [List.nil_append, List.cons_append]; rfl) ?_
  refine TX.walkT_is (TX.wantedT hops rfl rfl rfl rfl) (fun w' hC hd => TX.tame_2 66 (.slice ad6 D.ring.length cap6) 70 (.slice ra D.ring.length rc) rfl rfl (fun ρ hρ hf e0 e1 => TX.upon_call_rel (f := 33) (by go_simp) (HIn w' hC ad6 cap6 (hd 52 (by kernel_rfl)).1))) (by go_frame; rfl) (by simp only [List.nil_append, List.cons_append]; rfl) ?_
  refine TX.walkT_is (TX.wantedT hops rfl rfl rfl rfl) (fun w' hC hd => TX.tame_1 71 (.bool true) rfl (fun ρ hρ hf e0 => TX.upon_is (by go_simp))) (by go_frame; rfl) (by simp only [List.nil_append, List.cons_append]; rfl) ?_
  refine TX.walkT_is (TX.wantedN rfl) (fun w' hC hd => TX.tame_pick _ _ _ false rfl rfl rfl) (by go_frame; rfl) (by simp only [List.nil_append, List.cons_append]; rfl) ?_
  refine TX.walkT_nil (fun w2 hC hk => hK _ _ ?_)
  have H2 := Lib.hid (hC.1 H1.out)
  have HT2 := Lib.hid (HT1.out.trans hC.2)
  clear hC hk hK cc2 cc3 cc4 cc5 cc6 cc7 cc11 HPar HPh HS14 HS15 HLi HIn
  have HIR : Hid (∀ k, k < D.refs.length → In64 (nth D.refs k)) := Lib.hid (fun k hk => refs_in64 HL.out.2.2 hk)
  have HLn : Hid (D.refs.length ≤ 8000) := Lib.hid (Nat.le_trans (refs_len _) HL.out.2.1)
  have HRf := Lib.hid (H2.out.2.1.refs (by have := HL.out.2.1; omega))
  go_wp2_with fail
  refine HRf.out.mono ?_
  rintro e w3 ⟨ar, cr, rfl, hr, hf, hb⟩
  have H3 := Lib.hid (H2.out.later hb)
  have HT3 := Lib.hid (HT2.out.trans (Touch.of_below hb))
  have HR3 := Lib.hid hr
  have HF3 : Hid (RowOut (inG p) ar D.refs) := Lib.hid (fun _ b off e hx => H2.out.1.notG (hf b off e) (Or.inr hx))
  clear hr hf hb HRf
  go_wp2_with fail
  go_loopw [77] (fun s wx => ∃ k : Nat, k ≤ D.refs.length ∧ s = .int .i64 (k : Int) ∧ TSt w p q lo c D D wx ∧ Touch (inG p) wr wx ∧ Row wx .i64 ar D.refs) (fun s _ => D.refs.length - (intOf s).toNat)
  case atStart => exact ⟨0, Nat.zero_le _, rfl, H3.out, HT3.out, HR3.out⟩
  case round =>
    obtain ⟨k, hk, rfl, hS, hT, hR⟩ := hrel
    have H4 := Lib.hid hS
    have HT4 := Lib.hid hT
    have HR4 := Lib.hid hR
    clear hS hT hR
    by_cases hlt : k < D.refs.length
    · obtain ⟨bb, off, rfl, hbb, hc⟩ := HR4.out k hlt
      have h64 := Lib.hid (HIR.out k hlt)
      have hk8 : k < 8000 := by have := HLn.out; omega
      generalize nth D.refs k = r at *
      have n1 : (D.black r != D.black r) = false := by simp
      have n2 : (D.dead r != D.dead r) = false := by simp
      have n3 : (D.shd r != D.shd r) = false := by simp
      have n4 : (D.counted r 0 != D.counted r 0) = false := by simp
      have HK1 := Lib.hid (T.black c D r h64.out)
      have HK2 := Lib.hid (T.dead c D r h64.out)
      have HK3 := Lib.hid (T.shadow c D r h64.out)
      have HK4 := Lib.hid (T.counted c D r 0 h64.out)
      go_wp2_with fail
      refine (H4.out.does HK1.out).mono ?_
      rintro e w5 ⟨rfl, hS, hT⟩
      have H5 := Lib.hid hS
      have HT5 := Lib.hid (HT4.out.trans hT)
      have HTx5 := Lib.hid (hT)
      clear hS hT
      go_wp2_with fail
      refine (H5.out.2.1.black r).mono ?_
      rintro e w6 ⟨rfl, hd⟩
      have H6 := Lib.hid (H5.out.later hd.new)
      have HT6 := Lib.hid (HT5.out.trans (Touch.of_below hd.new))
      have HTx6 := Lib.hid (HTx5.out.trans (Touch.of_below hd.new))
      clear hd
      go_wp2_with fail
      refine (H6.out.does HK2.out).mono ?_
      rintro e w7 ⟨rfl, hS, hT⟩
      have H7 := Lib.hid hS
      have HT7 := Lib.hid (HT6.out.trans hT)
      have HTx7 := Lib.hid (HTx6.out.trans hT)
      clear hS hT
      go_wp2_with fail
      refine (H7.out.2.1.dead r).mono ?_
      rintro e w8 ⟨rfl, hd⟩
      have H8 := Lib.hid (H7.out.later hd.new)
      have HT8 := Lib.hid (HT7.out.trans (Touch.of_below hd.new))
      have HTx8 := Lib.hid (HTx7.out.trans (Touch.of_below hd.new))
      clear hd
      go_wp2_with fail
      refine (H8.out.does HK3.out).mono ?_
      rintro e w9 ⟨rfl, hS, hT⟩
      have H9 := Lib.hid hS
      have HT9 := Lib.hid (HT8.out.trans hT)
      have HTx9 := Lib.hid (HTx8.out.trans hT)
      clear hS hT
      go_wp2_with fail
      refine (H9.out.2.1.shd r).mono ?_
      rintro e w10 ⟨rfl, hd⟩
      have H10 := Lib.hid (H9.out.later hd.new)
      have HT10 := Lib.hid (HT9.out.trans (Touch.of_below hd.new))
      have HTx10 := Lib.hid (HTx9.out.trans (Touch.of_below hd.new))
      clear hd
      go_wp2_with fail
      refine (H10.out.does HK4.out).mono ?_
      rintro e w11 ⟨rfl, hS, hT⟩
      have H11 := Lib.hid hS
      have HT11 := Lib.hid (HT10.out.trans hT)
      have HTx11 := Lib.hid (HTx10.out.trans hT)
      clear hS hT
      go_wp2_with fail
      refine (H11.out.2.1.counted r 0).mono ?_
      rintro e w12 ⟨rfl, hd⟩
      have H12 := Lib.hid (H11.out.later hd.new)
      have HT12 := Lib.hid (HT11.out.trans (Touch.of_below hd.new))
      have HTx12 := Lib.hid (HTx11.out.trans (Touch.of_below hd.new))
      clear hd
      go_wp2_with fail
      go_roundw
      case rel => exact ⟨k + 1, by omega, by go_num, H12.out, HT12.out, HR4.out.touch HTx12.out HF3.out⟩
      case measure => simp [intOf]; omega
    · go_wp2_with fail
      go_ret
      exact ⟨rfl, H4.out, HT4.out⟩
end Go.Proofs.YtmcgplblbdjaiaaGreat.Pk

/-
  Layer 13: what stays true of the document's world while acts are done: its lengths, its heads, its shadows. No program in sight.
-/
namespace Go.Proofs.YtmcgplblbdjaiaaGreat.Pk
open Go.RowKit
set_option linter.unusedVariables false
set_option linter.unusedSimpArgs false

/-- A world of n blocks behind k acts. -/
structure WIn (D : Wd) (n k : Nat) : Prop where
  n0 : 0 < n
  cl : ∀ b, b ∈ D.clean → b < n
  cn : D.clean.length ≤ n
  tl : D.ts.length ≤ k
  hd : ∀ t, t ∈ D.ts → t.h < n
  sh : ∀ t, t ∈ D.ts → 0 ≤ t.mr.shadow ∧ t.mr.shadow ≤ (k : Int)
  rl : D.ring.length ≤ k
  pa : D.parity = 0 ∨ D.parity = 1
theorem WIn.new (n w : Nat) (h : 0 < n) : WIn (Wd.new n w) n 0 :=
  ⟨h, fun b hb => by simpa [Wd.new] using hb, by simp [Wd.new], by simp [Wd.new], by simp [Wd.new], by simp [Wd.new], by simp [Wd.new], Or.inl rfl⟩
theorem updL_length (r : Int) (f : Th → Th) : ∀ l : List Th, (updL r f l).length = l.length
  | [] => rfl
  | t :: l => by
    unfold updL
    split
    · simp
    · simp [updL_length r f l]
theorem updL_any {r : Int} {f : Th → Th} {t : Th} : ∀ {l : List Th}, t ∈ updL r f l → t ∈ l ∨ ∃ u, u ∈ l ∧ findL r l = some u ∧ t = f u
  | [], h => by simp [updL] at h
  | u :: l, h => by
    unfold updL at h
    unfold findL
    cases hu : u.at r with
    | true =>
      rw [if_pos hu] at h
      rcases List.mem_cons.1 h with h | h
      · exact Or.inr ⟨u, List.mem_cons_self, by simp, h⟩
      · exact Or.inl (List.mem_cons_of_mem _ h)
    | false =>
      rw [if_neg (by rw [hu]; simp)] at h
      rcases List.mem_cons.1 h with h | h
      · exact Or.inl (by rw [h]; exact List.mem_cons_self)
      · rcases updL_any h with h | ⟨v, h1, h2, h3⟩
        · exact Or.inl (List.mem_cons_of_mem _ h)
        · exact Or.inr ⟨v, List.mem_cons_of_mem _ h1, by simpa using h2, h3⟩
section
variable {D : Wd} {n k : Nat}
theorem WIn.more (h : WIn D n k) : WIn D n (k + 1) :=
  ⟨h.n0, h.cl, h.cn, Nat.le_succ_of_le h.tl, h.hd, fun t ht => by have := h.sh t ht; omega, Nat.le_succ_of_le h.rl, h.pa⟩
theorem WIn.mark0 (h : WIn D n k) (r : Int) (f : Mrk → Mrk) (hf : ∀ u, D.find r = some u → u ∈ D.ts → 0 ≤ (f u.mr).shadow ∧ (f u.mr).shadow ≤ (k : Int)) : WIn (D.mark r f) n k := by
  refine ⟨h.n0, h.cl, h.cn, ?_, ?_, ?_, h.rl, h.pa⟩
  · show (updL r _ D.ts).length ≤ k
    rw [updL_length]
    exact h.tl
  · intro t ht
    rcases updL_any ht with ht | ⟨u, h1, h2, rfl⟩
    · exact h.hd t ht
    · exact h.hd u h1
  · intro t ht
    rcases updL_any ht with ht | ⟨u, h1, h2, rfl⟩
    · have := h.sh t ht
      omega
    · have := hf u h2 h1
      simpa using this
theorem WIn.mark (h : WIn D n k) (r : Int) (f : Mrk → Mrk) (hf : ∀ u, D.find r = some u → u ∈ D.ts → 0 ≤ (f u.mr).shadow ∧ (f u.mr).shadow ≤ (k : Int) + 1) : WIn (D.mark r f) n (k + 1) :=
  h.more.mark0 r f (fun u h1 h2 => by have := hf u h1 h2; omega)
theorem WIn.shd (h : WIn D n k) (r : Int) : 0 ≤ D.shd r ∧ D.shd r ≤ (k : Int) := by
  unfold Wd.shd
  cases hf : D.find r with
  | none => simp
  | some t =>
    obtain ⟨i, _, hi⟩ := find_some hf
    have := h.sh t (List.mem_of_getElem? hi)
    show 0 ≤ (if t.mr.shade = D.parity then t.mr.shadow else 0) ∧ (if t.mr.shade = D.parity then t.mr.shadow else 0) ≤ (k : Int)
    split <;> omega
theorem WIn.turn (h : WIn D n k) : WIn D.turn n (k + 1) :=
  ⟨h.n0, h.cl, h.cn, Nat.le_succ_of_le h.tl, h.hd, h.more.sh, Nat.le_succ_of_le h.rl, by have := h.pa; show 1 - D.parity = 0 ∨ 1 - D.parity = 1; omega⟩
theorem WIn.begin_ (h : WIn D n k) (i : Int) : WIn (D.beginT i) n (k + 1) := by
  unfold Wd.beginT
  split
  · exact ⟨h.n0, h.cl, h.cn, Nat.le_succ_of_le h.tl, h.hd, h.more.sh, Nat.le_succ_of_le h.rl, h.pa⟩
  · exact h.more
theorem WIn.move (h : WIn D n k) (x y : Int) : WIn (D.moveT x y) n (k + 1) := by
  unfold Wd.moveT
  split
  · exact ⟨h.n0, h.cl, h.cn, Nat.le_succ_of_le h.tl, h.hd, h.more.sh, Nat.le_succ_of_le h.rl, h.pa⟩
  · exact h.more
theorem WIn.dye (h : WIn D n k) (r : Int) : WIn (D.dye r) n (k + 1) := h.mark r _ (fun u _ _ => ⟨Int.le_refl 0, by show (0 : Int) ≤ _; omega⟩)
theorem WIn.keep (h : WIn D n k) (r : Int) (f : Mrk → Mrk) (hf : ∀ m, (f m).shadow = m.shadow) : WIn (D.mark r f) n (k + 1) :=
  h.mark r f (fun u _ hu => by rw [hf]; have := h.sh u hu; omega)
theorem WIn.paint (h : WIn D n k) (r : Int) : WIn (D.paint r) n (k + 1) := h.keep r _ (fun _ => rfl)
theorem WIn.kill (h : WIn D n k) (r : Int) : WIn (D.kill r) n (k + 1) := h.keep r _ (fun _ => rfl)
theorem WIn.done (h : WIn D n k) (r : Int) : WIn (D.done r) n (k + 1) := h.keep r _ (fun _ => rfl)
theorem WIn.deepen (h : WIn D n k) (r : Int) : WIn (D.deepen r) n (k + 1) :=
  h.mark r _ (fun u _ _ => by have := h.shd r; show 0 ≤ D.shd r + 1 ∧ D.shd r + 1 ≤ _; omega)
theorem WIn.lighten (h : WIn D n k) (r : Int) : WIn (D.lighten r) n (k + 1) := by
  unfold Wd.lighten
  by_cases hl : D.lighter r = true
  · rw [if_pos hl]
    refine h.mark r _ (fun u hu hm => ?_)
    have h1 := h.sh u hm
    have h2 : D.shd r ≠ 0 := by
      unfold Wd.lighter at hl
      simp at hl
      exact hl.2
    unfold Wd.shd at h2
    rw [hu] at h2
    show 0 ≤ u.mr.shadow - 1 ∧ u.mr.shadow - 1 ≤ _
    by_cases hs : u.mr.shade = D.parity
    · have h3 : u.mr.shadow ≠ 0 := by simpa [hs] using h2
      omega
    · simp [hs] at h2
  · rw [if_neg hl]
    exact h.more
theorem WIn.touch (h : WIn D n k) (r : Int) : WIn (D.touch r) n (k + 1) := by
  unfold Wd.touch
  split
  · obtain ⟨a1, a2, a3, a4, a5, a6, a7, a8⟩ := h.paint r
    refine ⟨a1, a2, a3, a4, a5, a6, ?_, a8⟩
    have := h.rl
    show (if hasB (ints D.ring) (r - 1) then D.ring else D.ring ++ [(r - 1).toNat]).length ≤ k + 1
    split
    · omega
    · simp; omega
  · exact h.more
theorem WIn.mkB (h : WIn D n k) : D.mkB < n := by
  unfold Wd.mkB
  cases hc : D.clean with
  | nil => exact h.n0
  | cons b l => exact h.cl b (by rw [hc]; simp)
theorem WIn.made (h : WIn D n k) (x y : Int) : WIn (D.mkD x y) n (k + 1) := by
  unfold Wd.mkD
  split
  · have hb := h.mkB
    refine ⟨h.n0, fun b hb => h.cl b (List.mem_of_mem_tail (List.mem_of_mem_drop hb)), ?_, ?_, ?_, ?_, Nat.le_succ_of_le h.rl, h.pa⟩
    · have := h.cn
      show (D.clean.tail.drop (D.mkN x y)).length ≤ n
      simp
      omega
    · have := h.tl
      show (D.ts ++ [_]).length ≤ k + 1
      simp
      omega
    · intro t ht
      rcases List.mem_append.1 ht with ht | ht
      · exact h.hd t ht
      · rw [List.mem_singleton.1 ht]
        exact hb
    · intro t ht
      rcases List.mem_append.1 ht with ht | ht
      · exact h.more.sh t ht
      · rw [List.mem_singleton.1 ht]
        show (0 : Int) ≤ 0 ∧ (0 : Int) ≤ _
        omega
  · exact h.more
theorem WIn.make (h : WIn D n k) (x y r : Int) : WIn ((D.mkD x y).dye r) n (k + 1) :=
  (h.made x y).mark0 r _ (fun u _ _ => ⟨Int.le_refl 0, by show (0 : Int) ≤ _; omega⟩)
end
end Go.Proofs.YtmcgplblbdjaiaaGreat.Pk

/-
  Layer 13: behind a turn nobody is black, nobody was counted, all shadows are 0 (over the bundles).
-/
namespace Go.Proofs.YtmcgplblbdjaiaaGreat.Pk
open Go.RowKit
set_option linter.unusedVariables false
set_option linter.unusedSimpArgs false
set_option maxRecDepth 100000

/-! ### A world of so many objects of one block each -/
def twT (g : Nat → Mrk) (j : Nat) : Th := ⟨j, [], zer 1, zer 0, false, g j⟩
def TW (n : Nat) (pa ph : Int) (ring : List Nat) (k : Nat) (g : Nat → Mrk) : Wd := ⟨n, 16, (List.range n).drop k, (List.range k).map (twT g), pa, ph, 0, 0, 0, 0, 0, 0, 0, ring, [], 0⟩
section
variable {n k j : Nat} {pa ph : Int} {ring : List Nat} {g : Nat → Mrk}
theorem tw_at {i : Nat} : (twT g i).at ((j : Int) + 1) = decide (i = j) := by
  unfold Th.at twT
  simp
  omega
theorem tw_ix (hj : j < k) : (TW n pa ph ring k g).ix ((j : Int) + 1) = some j := by
  refine ixL_of (t := twT g j) ?_ (by rw [tw_at]; simp) (fun i u hi hu => ?_)
  · show ((List.range k).map (twT g))[j]? = _
    rw [List.getElem?_map, List.getElem?_range hj]
    rfl
  · change ((List.range k).map (twT g))[i]? = _ at hu
    rw [List.getElem?_map, List.getElem?_range (by omega)] at hu
    simp at hu
    subst hu
    rw [tw_at]
    simp
    omega
theorem tw_get (hj : j < k) : (TW n pa ph ring k g).ts[j]? = some (twT g j) := by
  show ((List.range k).map (twT g))[j]? = _
  rw [List.getElem?_map, List.getElem?_range hj]
  rfl
theorem tw_find (hj : j < k) : (TW n pa ph ring k g).find ((j : Int) + 1) = some (twT g j) := by
  unfold Wd.find
  rw [find_ix]
  have h1 : ixL ((j : Int) + 1) (TW n pa ph ring k g).ts = some j := tw_ix hj
  rw [h1]
  exact tw_get hj
theorem tw_mark (hj : j < k) (f : Mrk → Mrk) : (TW n pa ph ring k g).mark ((j : Int) + 1) f = TW n pa ph ring k (fun i => if i = j then f (g i) else g i) := by
  rw [mark_ix f (tw_ix hj) (tw_get hj)]
  unfold TW
  simp only [Wd.mk.injEq, true_and, and_true]
  apply List.ext_getElem?
  intro i
  by_cases e : j = i
  · subst e
    rw [List.getElem?_set_self (by simpa using hj), List.getElem?_map, List.getElem?_range hj]
    simp [twT]
  · rw [List.getElem?_set_ne e]
    simp only [List.getElem?_map]
    by_cases hi : i < k
    · rw [List.getElem?_range hi]
      simp [twT, Ne.symm e]
    · rw [List.getElem?_eq_none (by simpa using hi)]
      rfl
theorem tw_new (n : Nat) : Wd.new n 16 = TW n 0 0 [] 0 g := by
  unfold TW Wd.new
  simp
theorem tw_make (hk : k < n) : (TW n pa ph ring k g).mkE 1 0 = 0 ∧ (TW n pa ph ring k g).mkR 1 0 = (k : Int) + 1 ∧ (TW n pa ph ring k g).mkD 1 0 = TW n pa ph ring (k + 1) (fun i => if i = k then Mrk.new else g i) := by
  have hd : (List.range n).drop k = k :: (List.range n).drop (k + 1) := by
    rw [List.drop_eq_getElem_cons (by simpa using hk)]
    simp
  have hE : (TW n pa ph ring k g).mkE 1 0 = 0 := by
    show (if sizeE ((16 : Nat) : Int) 1 0 = 0 then (if (((List.range n).drop k).length : Int) < blocksV ((16 : Nat) : Int) 1 0 then 4 else 0) else sizeE ((16 : Nat) : Int) 1 0) = 0
    rw [if_pos (show sizeE ((16 : Nat) : Int) 1 0 = 0 by decide), if_neg]
    rw [show blocksV ((16 : Nat) : Int) 1 0 = 1 by decide, hd, List.length_cons]
    omega
  have hB : (TW n pa ph ring k g).mkB = k := by
    show ((List.range n).drop k).headD 0 = k
    rw [hd]
    rfl
  have hN : (TW n pa ph ring k g).mkN 1 0 = 0 := by
    show (blocksV ((16 : Nat) : Int) 1 0).toNat - 1 = 0
    decide
  refine ⟨hE, by unfold Wd.mkR; rw [if_pos hE, hB], ?_⟩
  unfold Wd.mkD
  rw [if_pos hE, hB, hN]
  unfold Wd.made TW
  simp only [Wd.mk.injEq, true_and, and_true]
  refine ⟨?_, ?_⟩
  · show ((List.range n).drop k).tail.drop 0 = _
    rw [hd]
    rfl
  · rw [List.range_succ, List.map_append]
    congr 1
    · exact List.map_congr_left (fun i hi => by have := List.mem_range.1 hi; unfold twT; simp only; rw [if_neg (by omega)])
    · simp [twT, ints]
/-! ### What is said of one of them -/
theorem tw_black (hj : j < k) : (TW n pa ph ring k g).black ((j : Int) + 1) = decide ((g j).color = pa) := by unfold Wd.black; rw [tw_find hj]; rfl
theorem tw_shd (hj : j < k) : (TW n pa ph ring k g).shd ((j : Int) + 1) = if (g j).shade = pa then (g j).shadow else 0 := by unfold Wd.shd; rw [tw_find hj]; rfl
theorem tw_counted (hj : j < k) (h1 : ph ≠ 1) : (TW n pa ph ring k g).counted ((j : Int) + 1) 0 = decide ((g j).count = pa) := by
  unfold Wd.counted
  rw [tw_find hj]
  show (decide ((0 : Int) ≤ 0) && (decide ((g j).count = pa) || (decide (ph = 1) && _ && _))) = _
  rw [decide_eq_false h1]
  simp
theorem tw_toucht (hj : j < k) (h0 : ph ≠ 0) : (TW n pa ph ring k g).toucht ((j : Int) + 1) = (!(g j).dead && !decide ((g j).color = pa)) := by
  unfold Wd.toucht
  rw [tw_find hj]
  show (!decide (ph = 0) && !(g j).dead && !decide ((g j).color = pa)) = _
  rw [decide_eq_false h0]
  simp
end
/-- All marks are at the parity. -/
def TwP (pa : Int) (B : Nat) (k : Nat) (g : Nat → Mrk) : Prop := ∀ i, i < k → (g i).color = pa ∧ (g i).count = pa ∧ (g i).shade = pa ∧ (g i).dead = false ∧ 0 ≤ (g i).shadow ∧ (g i).shadow ≤ (B : Int)

theorem TwP.mono {pa : Int} {B B' k : Nat} {g : Nat → Mrk} (h : TwP pa B k g) (hB : B ≤ B') : TwP pa B' k g := fun i hi => by
  obtain ⟨a1, a2, a3, a4, a5, a6⟩ := h i hi
  exact ⟨a1, a2, a3, a4, a5, by omega⟩
theorem tw_dye {n k j : Nat} {pa ph : Int} {ring : List Nat} {g : Nat → Mrk} (hj : j < k) : (TW n pa ph ring k g).dye ((j : Int) + 1) = TW n pa ph ring k (fun i => if i = j then { g i with color := pa, count := pa, shade := pa, shadow := 0 } else g i) := tw_mark hj _
theorem tw_deepen {n k j : Nat} {pa ph : Int} {ring : List Nat} {g : Nat → Mrk} (hj : j < k) : (TW n pa ph ring k g).deepen ((j : Int) + 1) = TW n pa ph ring k (fun i => if i = j then { g i with shade := pa, shadow := (TW n pa ph ring k g).shd ((j : Int) + 1) + 1 } else g i) := tw_mark hj _
theorem tw_touch {n k j : Nat} {pa ph : Int} {g : Nat → Mrk} (hj : j < k) (ht : (TW n pa ph (List.range j) k g).toucht ((j : Int) + 1) = true) :
    (TW n pa ph (List.range j) k g).touch ((j : Int) + 1) = TW n pa ph (List.range (j + 1)) k (fun i => if i = j then { g i with color := pa } else g i) := by
  have hp : (TW n pa ph (List.range j) k g).paint ((j : Int) + 1) = TW n pa ph (List.range j) k (fun i => if i = j then { g i with color := pa } else g i) := tw_mark hj _
  unfold Wd.touch
  rw [if_pos ht, hp]
  have hh : hasB (ints (TW n pa ph (List.range j) k g).ring) ((j : Int) + 1 - 1) = false := by
    rw [show (j : Int) + 1 - 1 = (j : Int) by omega]
    cases e : hasB (ints (List.range j)) (j : Int) with
    | false => exact e
    | true =>
      obtain ⟨x, hx, hm⟩ := hasB_nat e
      have := List.mem_range.1 hm
      omega
  rw [hh]
  unfold TW
  simp only [Wd.mk.injEq, true_and, and_true, Bool.false_eq_true, if_false]
  rw [List.range_succ]
  congr 2
  omega
theorem has_range {k j : Nat} (h : j < k) : hasB (ints (List.range k)) (j : Int) = true := by
  refine hasB_yes (k := j) (zs := ints (List.range k)) (by simpa [ints] using h) (by unfold nth ints; simp [List.getD, h])
/-! ### The walk -/
set_option maxHeartbeats 8000000 in
theorem tintTurns_main (F : PoolFns) (O : ObjFns) (R : RingFns) (T : TintFns) (n : Nat) (a : Option Addr) (cap : Nat) (ds : List Int) (back : Bool) (w : World) (h0 : 1 ≤ n) (h1 : n ≤ 40) (h2 : ds.length ≤ 100) (hr : Row w .u8 a ds) (hk : Kinds ds) :
    Calls Tryz.prog 4 #[.int .u8 (n : Int), .slice a ds.length cap, .bool back] w fun e w' => e = .returned (.bool true) ∧ Below w.heap.size w w' := by
  have g0 : ¬ (n : Int) < 1 := by omega
  have g1 : ¬ 40 < (n : Int) := by omega
  have g2 : ¬ 100 < (ds.length : Int) := by omega
  have hwn : IntKind.i64.wrap (n : Int) = (n : Int) := IntWalk.i64_in _ (by omega)
  have HO := Lib.hid (openedRW16 F n w h0 (by omega))
  have HR := Lib.hid hr
  have HK := Lib.hid hk
  have HN : Hid (1 ≤ n ∧ n ≤ 40) := Lib.hid ⟨h0, h1⟩
  have HD : Hid (ds.length ≤ 100) := Lib.hid h2
  clear hr hk h0 h1 h2
  cases back with
  | false =>
    go_enter Tryz.func4, Tryz.ntmps4
    go_wp2_with fail
    refine HO.out.mono ?_
    rintro e w0 ⟨p, q, lo, rfl, h, _, _, _, _⟩
    have H1 : Hid (RSt w p (cfR n) (TW n 0 0 [] 0 (fun _ => Mrk.new)) w0) := Lib.hid (by rw [← tw_new n]; exact h)
    clear h
    have HBg := Lib.hid ((T.begin_ (cfR n) (TW n 0 0 [] 0 (fun _ => Mrk.new)) 2).as (vb (show phB 2 = true by decide)) (show _ = TW n 0 2 [] 0 (fun _ => Mrk.new) from rfl))
    go_wp2_with fail
    refine (H1.out.does HBg.out).mono ?_
    rintro e w2 ⟨rfl, h, _⟩
    have H2 := Lib.hid h
    clear h
    clear HBg
    go_wp2_with fail
    go_loopw [10] (fun s wx => ∃ k : Nat, k ≤ n ∧ s = .int .i64 (k : Int) ∧ ∃ g, TwP 0 0 k g ∧ RSt w p (cfR n) (TW n 0 2 [] k g) wx) (fun s _ => n - (intOf s).toNat)
    case atStart => exact ⟨0, Nat.zero_le _, rfl, _, fun i hi => absurd hi (by omega), H2.out⟩
    case round =>
      obtain ⟨k, hk, rfl, g, hg, hS⟩ := hrel
      have HG := Lib.hid hg
      have H3 := Lib.hid hS
      clear hg hS
      have hn40 := HN.out.2
      by_cases hlt : k < n
      · obtain ⟨m1, m2, m3⟩ := tw_make (pa := 0) (ph := 2) (ring := []) (g := g) hlt
        have hM := make_does O (cfR n) _ 1 0 H3.out
        rw [m1, m2, m3] at hM
        have HM := Lib.hid hM
        clear hM m1 m2 m3
        have HDy := Lib.hid ((T.dye (cfR n) (TW n 0 2 [] (k + 1) (fun i => if i = k then Mrk.new else g i)) ((k : Int) + 1) (in64 _ (by omega))).as (vb (show _ = true by rw [tw_find (by omega)]; rfl)) (tw_dye (by omega)))
        have HG2 : Hid (TwP 0 0 (k + 1) (fun i => if i = k then { (if i = k then Mrk.new else g i) with color := 0, count := 0, shade := 0, shadow := 0 } else (if i = k then Mrk.new else g i))) := Lib.hid (fun i hi => by
          by_cases e : i = k
          · subst e
            simp [Mrk.new]
          · simp only [e, if_false]
            exact HG.out i (by omega))
        generalize hgg : (fun i => if i = k then { (if i = k then Mrk.new else g i) with color := (0 : Int), count := (0 : Int), shade := (0 : Int), shadow := 0 } else (if i = k then Mrk.new else g i)) = g2 at *
        clear hgg
        have HCo := Lib.hid ((T.counted (cfR n) (TW n 0 2 [] (k + 1) g2) ((k : Int) + 1) 0 (in64 _ (by omega))).as (vb (show _ = true by rw [tw_counted (by omega) (by decide)]; exact decide_eq_true (HG2.out k (by omega)).2.1)) rfl)
        go_wp2_with fail
        refine HM.out.mono ?_
        rintro e w4 ⟨rfl, h, _⟩
        have H4 := Lib.hid h
        clear h
        go_wp2_with fail
        refine (H4.out.does HDy.out).mono ?_
        rintro e w5 ⟨rfl, h, _⟩
        have H5 := Lib.hid h
        clear h
        go_wp2_with fail
        refine (H5.out.does HCo.out).mono ?_
        rintro e w6 ⟨rfl, h, _⟩
        have H6 := Lib.hid h
        clear h
        go_wp2_with fail
        go_roundw
        case rel => exact ⟨k + 1, by omega, by go_num, g2, HG2.out, H6.out⟩
        case measure => simp [intOf]; omega
      · have H4 : Hid (RSt w p (cfR n) (TW n 0 2 [] n g) _) := Lib.hid ((show k = n by omega) ▸ H3.out)
        have HG4 : Hid (TwP 0 0 n g) := Lib.hid ((show k = n by omega) ▸ HG.out)
        clear H3 HG
        go_wp2_with fail
        go_loopw [71] (fun s wx => ∃ j : Nat, j ≤ ds.length ∧ s = .int .i64 (j : Int) ∧ ∃ g, TwP 0 j n g ∧ RSt w p (cfR n) (TW n 0 2 [] n g) wx) (fun s _ => ds.length - (intOf s).toNat)
        case atStart => exact ⟨0, Nat.zero_le _, rfl, g, HG4.out, H4.out⟩
        case round =>
          obtain ⟨j, hj, rfl, g, hg, hS⟩ := hrel
          have HG := Lib.hid hg
          have H5 := Lib.hid hS
          clear hg hS
          have hd100 := HD.out
          by_cases hlj : j < ds.length
          · obtain ⟨bb, off, rfl, hb, hc⟩ := HR.out j hlj
            have hcw := (H5.out.below.cell (p := ⟨bb, off + j, none⟩) hb).trans hc
            obtain ⟨d0, d1⟩ := HK.out j
            obtain ⟨y, hy, hyn⟩ : ∃ y : Nat, Int.tmod (nth ds j) (n : Int) = (y : Int) ∧ y < n := by
              rw [Int.tmod_eq_emod_of_nonneg d0]
              have q1 := Int.emod_nonneg (nth ds j) (show (n : Int) ≠ 0 by have := HN.out.1; omega)
              have q2 := Int.emod_lt_of_pos (nth ds j) (show (0 : Int) < n by have := HN.out.1; omega)
              exact ⟨(nth ds j % (n : Int)).toNat, by omega, by omega⟩
            generalize nth ds j = d at *
            have hn0 : ¬ (n : Int) = 0 := by have := HN.out.1; omega
            have hwy : IntKind.i64.wrap (y : Int) = (y : Int) := IntWalk.i64_in _ (by omega)
            have hw8 : IntKind.u8.wrap (y : Int) = (y : Int) := by rw [IntKind.wrap_u8]; omega
            have hwy1 : IntKind.i64.wrap ((y : Int) + 1) = (y : Int) + 1 := IntWalk.i64_in _ (by omega)
            have hsh : (TW n 0 2 [] n g).shd ((y : Int) + 1) = (g y).shadow := by rw [tw_shd hyn, if_pos (HG.out y hyn).2.2.1]
            have HDe := Lib.hid ((T.deepen (cfR n) (TW n 0 2 [] n g) ((y : Int) + 1) (in64 _ (by omega)) (by rw [hsh]; have := (HG.out y hyn).2.2.2.2.2; omega)).as (vb (show _ = true by rw [tw_find hyn]; rfl)) (tw_deepen hyn))
            have HG2 : Hid (TwP 0 (j + 1) n (fun i => if i = y then { g i with shade := 0, shadow := (TW n 0 2 [] n g).shd ((y : Int) + 1) + 1 } else g i)) := Lib.hid (fun i hi => by
              obtain ⟨b1, b2, b3, b4, b5, b6⟩ := HG.out i hi
              by_cases e : i = y
              · subst e
                simp only [if_true, hsh]
                exact ⟨b1, b2, (by first | rfl | trivial), b4, by omega, by omega⟩
              · simp only [e, if_false]
                exact ⟨b1, b2, b3, b4, b5, by omega⟩)
            generalize hgg : (fun i => if i = y then { g i with shade := (0 : Int), shadow := (TW n 0 2 [] n g).shd ((y : Int) + 1) + 1 } else g i) = g2 at *
            clear hgg hsh hc hb
            go_wp2_with fail
            refine (H5.out.does HDe.out).mono ?_
            rintro e w6 ⟨rfl, h, _⟩
            have H6 := Lib.hid h
            clear h
            go_wp2_with fail
            go_roundw
            case rel => exact ⟨j + 1, by omega, by go_num, g2, HG2.out, H6.out⟩
            case measure => simp [intOf]; omega
          · have HG6 : Hid (TwP 0 100 n g) := Lib.hid (HG.out.mono (by omega))
            clear HG HG4 H4
            have HPa := Lib.hid ((T.parity (cfR n) (TW n 0 2 [] n g)).as (vi (show _ = 0 from rfl)) rfl)
            obtain ⟨vt, ht⟩ := T.turn (cfR n) (TW n 0 2 [] n g)
            have HTu := Lib.hid (ht.as rfl (show _ = TW n 1 2 (List.range 0) n g from rfl))
            clear ht
            go_wp2_with fail
            refine (H5.out.does HPa.out).mono ?_
            rintro e w6 ⟨rfl, h, _⟩
            have H6 := Lib.hid h
            clear h
            go_wp2_with fail
            refine (H6.out.does HTu.out).mono ?_
            rintro e w7 ⟨rfl, h, _⟩
            have H7 := Lib.hid h
            clear h
            go_wp2_with fail
            go_loopw [16] (fun s wx => ∃ k : Nat, k ≤ n ∧ s = .int .i64 (1 + (k : Int)) ∧ ∃ g, (∀ i, i < n → (if i < k then (g i).color = 1 else (g i).color = 0) ∧ (g i).count = 0 ∧ (g i).shade = 0 ∧ (g i).dead = false) ∧ RSt w p (cfR n) (TW n 1 2 (List.range k) n g) wx) (fun s _ => n + 1 - (intOf s).toNat)
            case atStart => exact ⟨0, Nat.zero_le _, rfl, g, fun i hi => by
              obtain ⟨b1, b2, b3, b4, b5, b6⟩ := HG6.out i hi
              exact ⟨by simpa using b1, b2, b3, b4⟩, H7.out⟩
            case round =>
              clear H7 HG6
              obtain ⟨k, hk, rfl, g, hg, hS⟩ := hrel
              have HG := Lib.hid hg
              have H8 := Lib.hid hS
              clear hg hS
              have hn40 := HN.out.2
              by_cases hlt : k < n
              · obtain ⟨b1, b2, b3, b4⟩ := HG.out k hlt
                simp at b1
                have HRf : Hid ((1 : Int) + (k : Int) = (k : Int) + 1) := Lib.hid (by omega)
                have ht0 : (TW n 1 2 (List.range k) n g).toucht ((k : Int) + 1) = true := by rw [tw_toucht hlt (by decide), b4, b1]; decide
                have HBl := Lib.hid ((T.black (cfR n) (TW n 1 2 (List.range k) n g) ((k : Int) + 1) (in64 _ (by omega))).as (vb (show _ = false by rw [tw_black hlt, b1]; decide)) rfl)
                have HCo := Lib.hid ((T.counted (cfR n) (TW n 1 2 (List.range k) n g) ((k : Int) + 1) 0 (in64 _ (by omega))).as (vb (show _ = false by rw [tw_counted hlt (by decide), b2]; decide)) rfl)
                have HSh := Lib.hid ((T.shadow (cfR n) (TW n 1 2 (List.range k) n g) ((k : Int) + 1) (in64 _ (by omega))).as (vi (show _ = 0 by rw [tw_shd hlt, b3]; rfl)) rfl)
                have HTo := Lib.hid ((T.touch (cfR n) (TW n 1 2 (List.range k) n g) ((k : Int) + 1) (in64 _ (by omega))).as (vb ht0) (tw_touch hlt ht0))
                have HG2 : Hid (∀ i, i < n → (if i < k + 1 then ((fun i => if i = k then { g i with color := 1 } else g i) i).color = 1 else ((fun i => if i = k then { g i with color := 1 } else g i) i).color = 0) ∧ ((fun i => if i = k then { g i with color := 1 } else g i) i).count = 0 ∧ ((fun i => if i = k then { g i with color := 1 } else g i) i).shade = 0 ∧ ((fun i => if i = k then { g i with color := 1 } else g i) i).dead = false) := Lib.hid (fun i hi => by
                  obtain ⟨c1, c2, c3, c4⟩ := HG.out i hi
                  by_cases e : i = k
                  · subst e
                    simp only [if_true, show i < i + 1 by omega]
                    exact ⟨trivial, c2, c3, c4⟩
                  · simp only [e, if_false]
                    refine ⟨?_, c2, c3, c4⟩
                    by_cases e2 : i < k
                    · rw [if_pos e2] at c1; rw [if_pos (by omega)]; exact c1
                    · rw [if_neg e2] at c1; rw [if_neg (by omega)]; exact c1)
                generalize hgg : (fun i => if i = k then { g i with color := (1 : Int) } else g i) = g2 at *
                clear hgg ht0 b1 b2 b3 b4
                have HB2 := Lib.hid ((T.black (cfR n) (TW n 1 2 (List.range (k + 1)) n g2) ((k : Int) + 1) (in64 _ (by omega))).as (vb (show _ = true by
                  rw [tw_black hlt]
                  have := (HG2.out k hlt).1
                  rw [if_pos (by omega)] at this
                  exact decide_eq_true this)) rfl)
                have HHs := Lib.hid ((RSt.ringHas R (c := cfR n) (D := TW n 1 2 (List.range (k + 1)) n g2) (k : Int)).as (vb (show _ = true from has_range (by omega))) rfl)
                have hwr : IntKind.i64.wrap ((1 : Int) + (k : Int) - 1) = (k : Int) := by rw [show (1 : Int) + (k : Int) - 1 = (k : Int) by omega]; exact IntWalk.i64_in _ (by omega)
                rw [← HRf.out] at HBl HCo HSh HTo HB2
                go_wp2_with fail
                refine (H8.out.does HBl.out).mono ?_
                rintro e w9 ⟨rfl, h, _⟩
                have H9 := Lib.hid h
                clear h
                go_wp2_with fail
                refine (H9.out.does HCo.out).mono ?_
                rintro e w10 ⟨rfl, h, _⟩
                have H10 := Lib.hid h
                clear h
                go_wp2_with fail
                refine (H10.out.does HSh.out).mono ?_
                rintro e w11 ⟨rfl, h, _⟩
                have H11 := Lib.hid h
                clear h
                go_wp2_with fail
                refine (H11.out.does HTo.out).mono ?_
                rintro e w12 ⟨rfl, h, _⟩
                have H12 := Lib.hid h
                clear h
                go_wp2_with fail
                refine (H12.out.does HB2.out).mono ?_
                rintro e w13 ⟨rfl, h, _⟩
                have H13 := Lib.hid h
                clear h
                go_wp2_with fail
                refine (H13.out.does HHs.out).mono ?_
                rintro e w14 ⟨rfl, h, _⟩
                have H14 := Lib.hid h
                clear h
                have HWk : Hid (wrap64 (1 + (k : Int) + 1) = 1 + ((k + 1 : Nat) : Int)) := Lib.hid (by rw [show 1 + (k : Int) + 1 = 1 + ((k + 1 : Nat) : Int) by omega]; exact IntWalk.wrap64_in (1 + ((k + 1 : Nat) : Int)) (by omega))
                go_wp2_with fail
                go_roundw
                case rel => exact ⟨k + 1, by omega, by rw [show (1 : Int) + (k : Int) + 1 = 1 + ((k + 1 : Nat) : Int) by omega], g2, HG2.out, H14.out⟩
                case measure => simp [intOf]; omega
              · have H9 : Hid (RSt w p (cfR n) (TW n 1 2 (List.range n) n g) _) := Lib.hid (by have := H8.out; rw [show k = n by omega] at this; exact this)
                have HPb := Lib.hid ((T.parity (cfR n) (TW n 1 2 (List.range n) n g)).as (vi (show _ = 1 from rfl)) rfl)
                have HLn := Lib.hid ((RSt.ringLen R (w := w) (wr := w) (p := p) (c := cfR n) (D := TW n 1 2 (List.range n) n g)).as (vi (show _ = (n : Int) by show ((List.range n).length : Int) = _; rw [List.length_range])) rfl)
                clear H8 HG
                go_wp2_with fail
                refine (begun13_any F O R T _).mono ?_
                rintro e w10 ⟨rfl, hb⟩
                have H10 := Lib.hid (H9.out.later hb)
                clear hb
                go_wp2_with fail
                refine (H10.out.does HPb.out).mono ?_
                rintro e w11 ⟨rfl, h, _⟩
                have H11 := Lib.hid h
                clear h
                go_wp2_with fail
                refine (H11.out.does HLn.out).mono ?_
                rintro e w12 ⟨rfl, h, _⟩
                have H12 := Lib.hid h
                clear h
                have HBe := Lib.hid H12.out.below
                go_wp2_with fail
                go_ret
                exact ⟨rfl, HBe.out⟩
  | true =>
    obtain ⟨v1, ht⟩ := T.turn (cfR n) (TW n 0 0 [] 0 (fun _ => Mrk.new))
    have HT1 := Lib.hid (ht.as rfl (show _ = TW n 1 0 [] 0 (fun _ => Mrk.new) from rfl))
    clear ht
    go_enter Tryz.func4, Tryz.ntmps4
    go_wp2_with fail
    refine HO.out.mono ?_
    rintro e w0 ⟨p, q, lo, rfl, h, _, _, _, _⟩
    have H0 : Hid (RSt w p (cfR n) (TW n 0 0 [] 0 (fun _ => Mrk.new)) w0) := Lib.hid (by rw [← tw_new n]; exact h)
    clear h
    go_wp2_with fail
    refine (H0.out.does HT1.out).mono ?_
    rintro e w1 ⟨rfl, h, _⟩
    have H1 := Lib.hid h
    clear h
    have HBg := Lib.hid ((T.begin_ (cfR n) (TW n 1 0 [] 0 (fun _ => Mrk.new)) 2).as (vb (show phB 2 = true by decide)) (show _ = TW n 1 2 [] 0 (fun _ => Mrk.new) from rfl))
    go_wp2_with fail
    refine (H1.out.does HBg.out).mono ?_
    rintro e w2 ⟨rfl, h, _⟩
    have H2 := Lib.hid h
    clear h
    clear HBg
    go_wp2_with fail
    go_loopw [10] (fun s wx => ∃ k : Nat, k ≤ n ∧ s = .int .i64 (k : Int) ∧ ∃ g, TwP 1 0 k g ∧ RSt w p (cfR n) (TW n 1 2 [] k g) wx) (fun s _ => n - (intOf s).toNat)
    case atStart => exact ⟨0, Nat.zero_le _, rfl, _, fun i hi => absurd hi (by omega), H2.out⟩
    case round =>
      obtain ⟨k, hk, rfl, g, hg, hS⟩ := hrel
      have HG := Lib.hid hg
      have H3 := Lib.hid hS
      clear hg hS
      have hn40 := HN.out.2
      by_cases hlt : k < n
      · obtain ⟨m1, m2, m3⟩ := tw_make (pa := 1) (ph := 2) (ring := []) (g := g) hlt
        have hM := make_does O (cfR n) _ 1 0 H3.out
        rw [m1, m2, m3] at hM
        have HM := Lib.hid hM
        clear hM m1 m2 m3
        have HDy := Lib.hid ((T.dye (cfR n) (TW n 1 2 [] (k + 1) (fun i => if i = k then Mrk.new else g i)) ((k : Int) + 1) (in64 _ (by omega))).as (vb (show _ = true by rw [tw_find (by omega)]; rfl)) (tw_dye (by omega)))
        have HG2 : Hid (TwP 1 0 (k + 1) (fun i => if i = k then { (if i = k then Mrk.new else g i) with color := 1, count := 1, shade := 1, shadow := 0 } else (if i = k then Mrk.new else g i))) := Lib.hid (fun i hi => by
          by_cases e : i = k
          · subst e
            simp [Mrk.new]
          · simp only [e, if_false]
            exact HG.out i (by omega))
        generalize hgg : (fun i => if i = k then { (if i = k then Mrk.new else g i) with color := (1 : Int), count := (1 : Int), shade := (1 : Int), shadow := 0 } else (if i = k then Mrk.new else g i)) = g2 at *
        clear hgg
        have HCo := Lib.hid ((T.counted (cfR n) (TW n 1 2 [] (k + 1) g2) ((k : Int) + 1) 0 (in64 _ (by omega))).as (vb (show _ = true by rw [tw_counted (by omega) (by decide)]; exact decide_eq_true (HG2.out k (by omega)).2.1)) rfl)
        go_wp2_with fail
        refine HM.out.mono ?_
        rintro e w4 ⟨rfl, h, _⟩
        have H4 := Lib.hid h
        clear h
        go_wp2_with fail
        refine (H4.out.does HDy.out).mono ?_
        rintro e w5 ⟨rfl, h, _⟩
        have H5 := Lib.hid h
        clear h
        go_wp2_with fail
        refine (H5.out.does HCo.out).mono ?_
        rintro e w6 ⟨rfl, h, _⟩
        have H6 := Lib.hid h
        clear h
        go_wp2_with fail
        go_roundw
        case rel => exact ⟨k + 1, by omega, by go_num, g2, HG2.out, H6.out⟩
        case measure => simp [intOf]; omega
      · have H4 : Hid (RSt w p (cfR n) (TW n 1 2 [] n g) _) := Lib.hid ((show k = n by omega) ▸ H3.out)
        have HG4 : Hid (TwP 1 0 n g) := Lib.hid ((show k = n by omega) ▸ HG.out)
        clear H3 HG
        go_wp2_with fail
        go_loopw [71] (fun s wx => ∃ j : Nat, j ≤ ds.length ∧ s = .int .i64 (j : Int) ∧ ∃ g, TwP 1 j n g ∧ RSt w p (cfR n) (TW n 1 2 [] n g) wx) (fun s _ => ds.length - (intOf s).toNat)
        case atStart => exact ⟨0, Nat.zero_le _, rfl, g, HG4.out, H4.out⟩
        case round =>
          obtain ⟨j, hj, rfl, g, hg, hS⟩ := hrel
          have HG := Lib.hid hg
          have H5 := Lib.hid hS
          clear hg hS
          have hd100 := HD.out
          by_cases hlj : j < ds.length
          · obtain ⟨bb, off, rfl, hb, hc⟩ := HR.out j hlj
            have hcw := (H5.out.below.cell (p := ⟨bb, off + j, none⟩) hb).trans hc
            obtain ⟨d0, d1⟩ := HK.out j
            obtain ⟨y, hy, hyn⟩ : ∃ y : Nat, Int.tmod (nth ds j) (n : Int) = (y : Int) ∧ y < n := by
              rw [Int.tmod_eq_emod_of_nonneg d0]
              have q1 := Int.emod_nonneg (nth ds j) (show (n : Int) ≠ 0 by have := HN.out.1; omega)
              have q2 := Int.emod_lt_of_pos (nth ds j) (show (0 : Int) < n by have := HN.out.1; omega)
              exact ⟨(nth ds j % (n : Int)).toNat, by omega, by omega⟩
            generalize nth ds j = d at *
            have hn0 : ¬ (n : Int) = 0 := by have := HN.out.1; omega
            have hwy : IntKind.i64.wrap (y : Int) = (y : Int) := IntWalk.i64_in _ (by omega)
            have hw8 : IntKind.u8.wrap (y : Int) = (y : Int) := by rw [IntKind.wrap_u8]; omega
            have hwy1 : IntKind.i64.wrap ((y : Int) + 1) = (y : Int) + 1 := IntWalk.i64_in _ (by omega)
            have hsh : (TW n 1 2 [] n g).shd ((y : Int) + 1) = (g y).shadow := by rw [tw_shd hyn, if_pos (HG.out y hyn).2.2.1]
            have HDe := Lib.hid ((T.deepen (cfR n) (TW n 1 2 [] n g) ((y : Int) + 1) (in64 _ (by omega)) (by rw [hsh]; have := (HG.out y hyn).2.2.2.2.2; omega)).as (vb (show _ = true by rw [tw_find hyn]; rfl)) (tw_deepen hyn))
            have HG2 : Hid (TwP 1 (j + 1) n (fun i => if i = y then { g i with shade := 1, shadow := (TW n 1 2 [] n g).shd ((y : Int) + 1) + 1 } else g i)) := Lib.hid (fun i hi => by
              obtain ⟨b1, b2, b3, b4, b5, b6⟩ := HG.out i hi
              by_cases e : i = y
              · subst e
                simp only [if_true, hsh]
                exact ⟨b1, b2, (by first | rfl | trivial), b4, by omega, by omega⟩
              · simp only [e, if_false]
                exact ⟨b1, b2, b3, b4, b5, by omega⟩)
            generalize hgg : (fun i => if i = y then { g i with shade := (1 : Int), shadow := (TW n 1 2 [] n g).shd ((y : Int) + 1) + 1 } else g i) = g2 at *
            clear hgg hsh hc hb
            go_wp2_with fail
            refine (H5.out.does HDe.out).mono ?_
            rintro e w6 ⟨rfl, h, _⟩
            have H6 := Lib.hid h
            clear h
            go_wp2_with fail
            go_roundw
            case rel => exact ⟨j + 1, by omega, by go_num, g2, HG2.out, H6.out⟩
            case measure => simp [intOf]; omega
          · have HG6 : Hid (TwP 1 100 n g) := Lib.hid (HG.out.mono (by omega))
            clear HG HG4 H4
            have HPa := Lib.hid ((T.parity (cfR n) (TW n 1 2 [] n g)).as (vi (show _ = 1 from rfl)) rfl)
            obtain ⟨vt, ht⟩ := T.turn (cfR n) (TW n 1 2 [] n g)
            have HTu := Lib.hid (ht.as rfl (show _ = TW n 0 2 (List.range 0) n g from rfl))
            clear ht
            go_wp2_with fail
            refine (H5.out.does HPa.out).mono ?_
            rintro e w6 ⟨rfl, h, _⟩
            have H6 := Lib.hid h
            clear h
            go_wp2_with fail
            refine (H6.out.does HTu.out).mono ?_
            rintro e w7 ⟨rfl, h, _⟩
            have H7 := Lib.hid h
            clear h
            go_wp2_with fail
            go_loopw [16] (fun s wx => ∃ k : Nat, k ≤ n ∧ s = .int .i64 (1 + (k : Int)) ∧ ∃ g, (∀ i, i < n → (if i < k then (g i).color = 0 else (g i).color = 1) ∧ (g i).count = 1 ∧ (g i).shade = 1 ∧ (g i).dead = false) ∧ RSt w p (cfR n) (TW n 0 2 (List.range k) n g) wx) (fun s _ => n + 1 - (intOf s).toNat)
            case atStart => exact ⟨0, Nat.zero_le _, rfl, g, fun i hi => by
              obtain ⟨b1, b2, b3, b4, b5, b6⟩ := HG6.out i hi
              exact ⟨by simpa using b1, b2, b3, b4⟩, H7.out⟩
            case round =>
              clear H7 HG6
              obtain ⟨k, hk, rfl, g, hg, hS⟩ := hrel
              have HG := Lib.hid hg
              have H8 := Lib.hid hS
              clear hg hS
              have hn40 := HN.out.2
              by_cases hlt : k < n
              · obtain ⟨b1, b2, b3, b4⟩ := HG.out k hlt
                simp at b1
                have HRf : Hid ((1 : Int) + (k : Int) = (k : Int) + 1) := Lib.hid (by omega)
                have ht0 : (TW n 0 2 (List.range k) n g).toucht ((k : Int) + 1) = true := by rw [tw_toucht hlt (by decide), b4, b1]; decide
                have HBl := Lib.hid ((T.black (cfR n) (TW n 0 2 (List.range k) n g) ((k : Int) + 1) (in64 _ (by omega))).as (vb (show _ = false by rw [tw_black hlt, b1]; decide)) rfl)
                have HCo := Lib.hid ((T.counted (cfR n) (TW n 0 2 (List.range k) n g) ((k : Int) + 1) 0 (in64 _ (by omega))).as (vb (show _ = false by rw [tw_counted hlt (by decide), b2]; decide)) rfl)
                have HSh := Lib.hid ((T.shadow (cfR n) (TW n 0 2 (List.range k) n g) ((k : Int) + 1) (in64 _ (by omega))).as (vi (show _ = 0 by rw [tw_shd hlt, b3]; rfl)) rfl)
                have HTo := Lib.hid ((T.touch (cfR n) (TW n 0 2 (List.range k) n g) ((k : Int) + 1) (in64 _ (by omega))).as (vb ht0) (tw_touch hlt ht0))
                have HG2 : Hid (∀ i, i < n → (if i < k + 1 then ((fun i => if i = k then { g i with color := 0 } else g i) i).color = 0 else ((fun i => if i = k then { g i with color := 0 } else g i) i).color = 1) ∧ ((fun i => if i = k then { g i with color := 0 } else g i) i).count = 1 ∧ ((fun i => if i = k then { g i with color := 0 } else g i) i).shade = 1 ∧ ((fun i => if i = k then { g i with color := 0 } else g i) i).dead = false) := Lib.hid (fun i hi => by
                  obtain ⟨c1, c2, c3, c4⟩ := HG.out i hi
                  by_cases e : i = k
                  · subst e
                    simp only [if_true, show i < i + 1 by omega]
                    exact ⟨trivial, c2, c3, c4⟩
                  · simp only [e, if_false]
                    refine ⟨?_, c2, c3, c4⟩
                    by_cases e2 : i < k
                    · rw [if_pos e2] at c1; rw [if_pos (by omega)]; exact c1
                    · rw [if_neg e2] at c1; rw [if_neg (by omega)]; exact c1)
                generalize hgg : (fun i => if i = k then { g i with color := (0 : Int) } else g i) = g2 at *
                clear hgg ht0 b1 b2 b3 b4
                have HB2 := Lib.hid ((T.black (cfR n) (TW n 0 2 (List.range (k + 1)) n g2) ((k : Int) + 1) (in64 _ (by omega))).as (vb (show _ = true by
                  rw [tw_black hlt]
                  have := (HG2.out k hlt).1
                  rw [if_pos (by omega)] at this
                  exact decide_eq_true this)) rfl)
                have HHs := Lib.hid ((RSt.ringHas R (c := cfR n) (D := TW n 0 2 (List.range (k + 1)) n g2) (k : Int)).as (vb (show _ = true from has_range (by omega))) rfl)
                have hwr : IntKind.i64.wrap ((1 : Int) + (k : Int) - 1) = (k : Int) := by rw [show (1 : Int) + (k : Int) - 1 = (k : Int) by omega]; exact IntWalk.i64_in _ (by omega)
                rw [← HRf.out] at HBl HCo HSh HTo HB2
                go_wp2_with fail
                refine (H8.out.does HBl.out).mono ?_
                rintro e w9 ⟨rfl, h, _⟩
                have H9 := Lib.hid h
                clear h
                go_wp2_with fail
                refine (H9.out.does HCo.out).mono ?_
                rintro e w10 ⟨rfl, h, _⟩
                have H10 := Lib.hid h
                clear h
                go_wp2_with fail
                refine (H10.out.does HSh.out).mono ?_
                rintro e w11 ⟨rfl, h, _⟩
                have H11 := Lib.hid h
                clear h
                go_wp2_with fail
                refine (H11.out.does HTo.out).mono ?_
                rintro e w12 ⟨rfl, h, _⟩
                have H12 := Lib.hid h
                clear h
                go_wp2_with fail
                refine (H12.out.does HB2.out).mono ?_
                rintro e w13 ⟨rfl, h, _⟩
                have H13 := Lib.hid h
                clear h
                go_wp2_with fail
                refine (H13.out.does HHs.out).mono ?_
                rintro e w14 ⟨rfl, h, _⟩
                have H14 := Lib.hid h
                clear h
                have HWk : Hid (wrap64 (1 + (k : Int) + 1) = 1 + ((k + 1 : Nat) : Int)) := Lib.hid (by rw [show 1 + (k : Int) + 1 = 1 + ((k + 1 : Nat) : Int) by omega]; exact IntWalk.wrap64_in (1 + ((k + 1 : Nat) : Int)) (by omega))
                go_wp2_with fail
                go_roundw
                case rel => exact ⟨k + 1, by omega, by rw [show (1 : Int) + (k : Int) + 1 = 1 + ((k + 1 : Nat) : Int) by omega], g2, HG2.out, H14.out⟩
                case measure => simp [intOf]; omega
              · have H9 : Hid (RSt w p (cfR n) (TW n 0 2 (List.range n) n g) _) := Lib.hid (by have := H8.out; rw [show k = n by omega] at this; exact this)
                have HPb := Lib.hid ((T.parity (cfR n) (TW n 0 2 (List.range n) n g)).as (vi (show _ = 0 from rfl)) rfl)
                have HLn := Lib.hid ((RSt.ringLen R (w := w) (wr := w) (p := p) (c := cfR n) (D := TW n 0 2 (List.range n) n g)).as (vi (show _ = (n : Int) by show ((List.range n).length : Int) = _; rw [List.length_range])) rfl)
                clear H8 HG
                go_wp2_with fail
                refine (begun13_any F O R T _).mono ?_
                rintro e w10 ⟨rfl, hb⟩
                have H10 := Lib.hid (H9.out.later hb)
                clear hb
                go_wp2_with fail
                refine (H10.out.does HPb.out).mono ?_
                rintro e w11 ⟨rfl, h, _⟩
                have H11 := Lib.hid h
                clear h
                go_wp2_with fail
                refine (H11.out.does HLn.out).mono ?_
                rintro e w12 ⟨rfl, h, _⟩
                have H12 := Lib.hid h
                clear h
                have HBe := Lib.hid H12.out.below
                go_wp2_with fail
                go_ret
                exact ⟨rfl, HBe.out⟩
end Go.Proofs.YtmcgplblbdjaiaaGreat.Pk
