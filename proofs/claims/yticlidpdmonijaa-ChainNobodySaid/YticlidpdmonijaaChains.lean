/-
  The document's chains: Of, Set, Stands; the law's own stands.
-/
import Derived.Test.YticlidpdmonijaaRefChain
import Derived.Test.YticlidpdmonijaaChainMath
import Derived.Test.YticlidpdmonijaaGround2
import Derived.BigQuiet
namespace Go.Proofs.Yticlidpdmonijaa.Pk
open Go.RowKit
set_option linter.unusedVariables false
set_option linter.unusedSimpArgs false

theorem Drw.trans {a b c : World} (h : Drw a b) (k : Drw b c) : Drw a c := by
  obtain ⟨m, rfl⟩ := h; obtain ⟨m', rfl⟩ := k; exact ⟨m + m', World.drewN_drewN _ _ _⟩
/-- Blocks' numbers as numbers. -/
def ints (l : List Nat) : List Int := l.map (fun n : Nat => (n : Int))
theorem ints_length (l : List Nat) : (ints l).length = l.length := by simp [ints]
theorem ints_nth {l : List Nat} {i : Nat} (h : i < l.length) : nth (ints l) i = (l[i] : Int) := by unfold nth ints; simp [List.getD, h]
theorem ints_out {l : List Nat} {i : Nat} (h : l.length ≤ i) : nth (ints l) i = 0 := nth_out (by rw [ints_length]; exact h)
theorem ints_few {l : List Nat} {N : Nat} (h : ∀ b, b ∈ l → b < N) (hN : N ≤ 1048576) : Few (ints l) := by
  intro k
  by_cases hk : k < l.length
  · rw [ints_nth hk]
    have := h _ (List.getElem_mem hk)
    omega
  · rw [ints_out (by omega)]; decide
theorem ints_end (l : List Nat) : endA (ints l) = fstI l ∧ endB (ints l) = lstI l := by
  unfold endA endB
  rw [ints_length]
  by_cases h : l.length = 0
  · rw [if_pos h, if_pos h]
    have : l = [] := List.length_eq_zero_iff.1 h
    subst this; exact ⟨rfl, rfl⟩
  · rw [if_neg h, if_neg h]
    constructor
    · cases l with
      | nil => exact absurd rfl h
      | cons a t => rfl
    · rcases List.eq_nil_or_concat l with rfl | ⟨t, x, rfl⟩
      · exact absurd rfl h
      · rw [List.concat_eq_append, lstI_snoc, ints_nth (by simp)]; simp
theorem ints_next {c : Cf} {zs : List Int} : ∀ {l : List Nat}, Links c zs l → ∀ i, (h : i < l.length) → nth zs (lnk c l[i]) = nextI (ints l) i
  | [], _, i, h => absurd h (by simp)
  | b :: t, hl, 0, _ => by
    show nth zs (lnk c b) = _
    rw [hl.1]
    unfold nextI
    rw [ints_length]
    cases t with
    | nil => rfl
    | cons a t' => rw [if_pos (by simp)]; rfl
  | b :: t, hl, i + 1, h => by
    have hi : i < t.length := by simpa using h
    have := ints_next hl.2 i hi
    show nth zs (lnk c t[i]) = _
    rw [this]
    unfold nextI
    rw [ints_length, ints_length]
    by_cases h2 : i + 1 < t.length
    · rw [if_pos h2, if_pos (by simpa using h2)]; rfl
    · rw [if_neg h2, if_neg (by simpa using h2)]
theorem ints_has {l : List Nat} {b : Nat} : hasB (ints l) (b : Int) = decide (b ∈ l) := by
  unfold hasB ints
  rw [List.any_map]
  by_cases h : b ∈ l
  · rw [decide_eq_true h, List.any_eq_true]; exact ⟨b, h, by simp⟩
  · rw [decide_eq_false h, List.any_eq_false]
    intro x hx
    simp
    intro e
    exact h (by have : x = b := by omega
                rw [← this]; exact hx)

/-- The document's chains in a world: two rows; what changes only blocks of X but q leaves them. -/
structure Chn (X : Nat → Prop) (w : World) (q : Nat) (la lb : List Nat) : Prop where
  is : ∃ a1 c1 a2 c2, Blk w q #[.slice a1 la.length c1, .slice a2 lb.length c2] 34 ∧ Row w .i64 a1 (ints la) ∧ Row w .i64 a2 (ints lb) ∧ RowOut X a1 (ints la) ∧ RowOut X a2 (ints lb)
  xq : X q
theorem Chn.later {X : Nat → Prop} {w w' : World} {q : Nat} {la lb : List Nat} (h : Chn X w q la lb) (hb : Below w.heap.size w w') : Chn X w' q la lb := by
  obtain ⟨a1, c1, a2, c2, h1, h2, h3, h4, h5⟩ := h.is
  exact ⟨⟨a1, c1, a2, c2, h1.later hb, h2.later hb, h3.later hb, h4, h5⟩, h.xq⟩
theorem Chn.drew {X : Nat → Prop} {w : World} {q : Nat} {la lb : List Nat} (h : Chn X w q la lb) : Chn X w.drew q la lb := h.later (Drw.new ⟨1, rfl⟩)
theorem Chn.lt {X : Nat → Prop} {w : World} {q : Nat} {la lb : List Nat} (h : Chn X w q la lb) : q < w.heap.size := by
  obtain ⟨a1, c1, a2, c2, h1, _⟩ := h.is; exact h1.lt
theorem Chn.touch {X Y : Nat → Prop} {w w' : World} {q : Nat} {la lb : List Nat} (h : Chn X w q la lb) (k : Touch Y w w') (hY : ∀ i, Y i → X i) (hq : ¬ Y q) : Chn X w' q la lb := by
  obtain ⟨a1, c1, a2, c2, h1, h2, h3, h4, h5⟩ := h.is
  exact ⟨⟨a1, c1, a2, c2, h1.touch k hq, h2.touch k (h4.mono hY), h3.touch k (h5.mono hY), h4, h5⟩, h.xq⟩

/-- The chain k of the two. -/
def ofK (k : Nat) (la lb : List Nat) : List Nat := if k = 0 then la else lb

set_option maxHeartbeats 400000 in
theorem rcOf0 (X : Nat → Prop) (q : Nat) (la lb : List Nat) (w : World) (hC : Chn X w q la lb) :
    Calls Try.prog 23 #[.pointer (some ⟨q, 0, none⟩), .int .i64 0] w fun e w' => (∃ a c, e = .returned (.slice a la.length c) ∧ Row w .i64 a (ints la) ∧ RowOut X a (ints la)) ∧ w = w' := by
  obtain ⟨a1, c1, a2, c2, h1, h2, h3, h4, h5⟩ := hC.is
  have c0 := h1.cell 0 rfl
  have H2 := Lib.hid h2
  have H4 := Lib.hid h4
  clear hC h1 h2 h3 h4 h5
  go_enter Try.func23, Try.ntmps23
  go_wp2
  go_ret
  exact ⟨⟨a1, c1, rfl, H2.out, H4.out⟩, rfl⟩
set_option maxHeartbeats 400000 in
theorem rcOf1 (X : Nat → Prop) (q : Nat) (la lb : List Nat) (w : World) (hC : Chn X w q la lb) :
    Calls Try.prog 23 #[.pointer (some ⟨q, 0, none⟩), .int .i64 1] w fun e w' => (∃ a c, e = .returned (.slice a lb.length c) ∧ Row w .i64 a (ints lb) ∧ RowOut X a (ints lb)) ∧ w = w' := by
  obtain ⟨a1, c1, a2, c2, h1, h2, h3, h4, h5⟩ := hC.is
  have c0 := h1.cell 1 rfl
  have H2 := Lib.hid h3
  have H4 := Lib.hid h5
  clear hC h1 h2 h3 h4 h5
  go_enter Try.func23, Try.ntmps23
  go_wp2
  go_ret
  exact ⟨⟨a2, c2, rfl, H2.out, H4.out⟩, rfl⟩

set_option maxHeartbeats 400000 in
theorem rcStands_any (X : Nat → Prop) (q : Nat) (la lb : List Nat) (b : Nat) (w : World) (hC : Chn X w q la lb) (h1 : la.length ≤ 10000) (h2 : lb.length ≤ 10000) :
    Calls Try.prog 25 #[.pointer (some ⟨q, 0, none⟩), .int .i64 (b : Int)] w fun e w' => e = .returned (.bool (decide (b ∈ la ∨ b ∈ lb))) ∧ w = w' := by
  obtain ⟨a1, c1, a2, c2, g1, g2, g3, g4, g5⟩ := hC.is
  have c0 := g1.cell 0 rfl
  have c1' := g1.cell 1 rfl
  have hA : Hid (∀ w', w' = w → Calls Try.prog 49 #[.slice a1 la.length c1, .int .i64 (b : Int)] w' fun e w'' => e = .returned (.bool (decide (b ∈ la))) ∧ w' = w'') := Lib.hid (fun w' e => by
    subst e
    have := rcHas_any a1 c1 (ints la) (b : Int) w' g2 (by rw [ints_length]; unfold maxLen; omega)
    rw [ints_has, ints_length] at this
    exact this)
  have hB : Hid (∀ w', w' = w → Calls Try.prog 49 #[.slice a2 lb.length c2, .int .i64 (b : Int)] w' fun e w'' => e = .returned (.bool (decide (b ∈ lb))) ∧ w' = w'') := Lib.hid (fun w' e => by
    subst e
    have := rcHas_any a2 c2 (ints lb) (b : Int) w' g3 (by rw [ints_length]; unfold maxLen; omega)
    rw [ints_has, ints_length] at this
    exact this)
  clear hC g1 g2 g3 g4 g5
  by_cases m1 : b ∈ la
  · have E : Hid (decide (b ∈ la ∨ b ∈ lb) = true) := Lib.hid (decide_eq_true (Or.inl m1))
    have M := Lib.hid (decide_eq_true m1)
    clear m1
    go_enter Try.func25, Try.ntmps25
    go_wp2_with fail
    refine (hA.out _ rfl).mono ?_
    rw [M.out]
    rintro e w1 ⟨rfl, rfl⟩
    go_wp2_with fail
    go_ret
    exact ⟨ret_bool E.out.symm, rfl⟩
  · have E : Hid (decide (b ∈ la ∨ b ∈ lb) = decide (b ∈ lb)) := Lib.hid (by simp [m1])
    have M := Lib.hid (decide_eq_false m1)
    clear m1
    go_enter Try.func25, Try.ntmps25
    go_wp2_with fail
    refine (hA.out _ rfl).mono ?_
    rw [M.out]
    rintro e w1 ⟨rfl, rfl⟩
    go_wp2_with fail
    refine (hB.out _ rfl).mono ?_
    rintro e w1 ⟨rfl, rfl⟩
    go_wp2_with fail
    go_ret
    exact ⟨ret_bool E.out.symm, rfl⟩

/-- A new row in the place of one of the chains. -/
theorem rcSet0 (X : Nat → Prop) (q : Nat) (la lb l : List Nat) (a : Option Addr) (cap n : Nat) (hn : n = l.length) (w : World) (hC : Chn X w q la lb) (hr : Row w .i64 a (ints l)) (ho : RowOut X a (ints l)) :
    Calls Try.prog 26 #[.pointer (some ⟨q, 0, none⟩), .int .i64 0, .slice a n cap] w fun e w' => e = .returned (.tuple #[]) ∧ Chn X w' q l lb ∧ Touch (· = q) w w' := by
  subst hn
  obtain ⟨a1, c1, a2, c2, g1, g2, g3, g4, g5⟩ := hC.is
  have c0 := g1.cell 0 rfl
  have f0 := g1.free 0
  have G1 := Lib.hid g1
  have G3 := Lib.hid g3
  have G5 := Lib.hid g5
  have HR := Lib.hid hr
  have HO := Lib.hid ho
  have HX : Hid (∀ i, i = q → X i) := Lib.hid (fun i e => by subst e; exact hC.xq)
  clear hC g1 g2 g3 g4 g5 hr ho
  go_enter Try.func26, Try.ntmps26
  go_wp2
  go_end0
  have hT : Touch (· = q) w (w.setCell ⟨q, 0, none⟩ (.slice a l.length cap)) := (Touch.refl (· = q) w).setCell (p := ⟨q, 0, none⟩) (fun _ => rfl) _
  exact ⟨rfl, ⟨⟨a, cap, a2, c2, G1.out.put 0 _ (by simp), HR.out.touch hT (HO.out.mono HX.out), G3.out.touch hT (G5.out.mono HX.out), HO.out, G5.out⟩, HX.out q rfl⟩, hT⟩

theorem rcSet1 (X : Nat → Prop) (q : Nat) (la lb l : List Nat) (a : Option Addr) (cap n : Nat) (hn : n = l.length) (w : World) (hC : Chn X w q la lb) (hr : Row w .i64 a (ints l)) (ho : RowOut X a (ints l)) :
    Calls Try.prog 26 #[.pointer (some ⟨q, 0, none⟩), .int .i64 1, .slice a n cap] w fun e w' => e = .returned (.tuple #[]) ∧ Chn X w' q la l ∧ Touch (· = q) w w' := by
  subst hn
  obtain ⟨a1, c1, a2, c2, g1, g2, g3, g4, g5⟩ := hC.is
  have c0 := g1.cell 1 rfl
  have f0 := g1.free 1
  have G1 := Lib.hid g1
  have G2 := Lib.hid g2
  have G4 := Lib.hid g4
  have HR := Lib.hid hr
  have HO := Lib.hid ho
  have HX : Hid (∀ i, i = q → X i) := Lib.hid (fun i e => by subst e; exact hC.xq)
  clear hC g1 g2 g3 g4 g5 hr ho
  go_enter Try.func26, Try.ntmps26
  go_wp2
  go_end0
  have hT : Touch (· = q) w (w.setCell ⟨q, 1, none⟩ (.slice a l.length cap)) := (Touch.refl (· = q) w).setCell (p := ⟨q, 1, none⟩) (fun _ => rfl) _
  exact ⟨rfl, ⟨⟨a1, c1, a, cap, G1.out.put 1 _ (by simp), G2.out.touch hT (G4.out.mono HX.out), HR.out.touch hT (HO.out.mono HX.out), G4.out, HO.out⟩, HX.out q rfl⟩, hT⟩

/-! ### The law's own look at registers and links -/
theorem seeR (p : Pl) (c : Cf) (s : St) (r : Nat) (x y : Int) (w : World) (hG : G w p c s) (hr : r < 24) (hx : x = (r : Int)) (hy : nth s.zs r = y) :
    Calls Try.prog 21 #[.pointer (some ⟨p.a, 0, none⟩), .int .i64 x] w fun e w' => e = .returned (.int .i64 y) ∧ Drw w w' := by
  subst hx hy
  have h := seereg_any p c s (r : Int) w hG
  rw [reg_at hr] at h
  exact h.mono fun e w' h => ⟨h.1, h.2 ▸ Drw.refl _⟩
theorem seeL (p : Pl) (c : Cf) (s : St) (b : Nat) (y : Int) (w : World) (hG : G w p c s) (hb : b < c.N) (hy : nth s.zs (lnk c b) = y) :
    Calls Try.prog 30 #[.pointer (some ⟨p.a, 0, none⟩), .int .i64 (b : Int), .int .i64 5] w fun e w' => e = .returned (.int .u32 y) ∧ Drw w w' := by
  subst hy
  have h := seeword_any p c s (b : Int) 5 w hG
  rw [lnk_word hG.may hb] at h
  exact h

set_option maxHeartbeats 1000000 in
theorem stands_any (p : Pl) (c : Cf) (s : St) (k : Nat) (l : List Nat) (a : Option Addr) (cap : Nat) (w : World) (hG : G w p c s) (hC : ChainAt c s.zs k l) (hk : k = 0 ∨ k = 1) (hr : Row w .i64 a (ints l)) (hl : l.length ≤ 10000) :
    Calls Try.prog 11 #[.pointer (some ⟨p.a, 0, none⟩), .int .i64 (k : Int), .slice a l.length cap] w fun e w' => e = .returned (.bool true) ∧ Drw w w' := by
  have hN : c.N ≤ 1048576 := hG.may.n.2
  have hf := ints_few hC.lt hN
  have HEn : Hid (∀ w', Row w' .i64 a (ints l) → Calls Try.prog 31 #[.slice a l.length cap] w' fun e w'' => e = .returned (.tuple #[.int .i64 (fstI l), .int .i64 (lstI l), .int .i64 (l.length : Int)]) ∧ Drw w' w'') := Lib.hid (fun w' hr' => by
    have := rcEnds_any a cap (ints l) w' hr' (by rw [ints_length]; exact hl) hf
    rw [(ints_end l).1, (ints_end l).2, ints_length] at this
    exact this)
  have HNx : Hid (∀ w' (i : Nat), i ≤ 10000 → Row w' .i64 a (ints l) → Calls Try.prog 32 #[.slice a l.length cap, .int .i64 (i : Int)] w' fun e w'' => e = .returned (.int .i64 (nextI (ints l) i)) ∧ w' = w'') := Lib.hid (fun w' i hi hr' => by
    have := rcNext_any a cap (ints l) i w' hr' (by rw [ints_length]; exact hl) hf hi
    rw [ints_length] at this
    exact this)
  have HLt := Lib.hid hC.lt
  have HLn := Lib.hid (ints_next hC.ln)
  have R0 := Lib.hid hC.r0
  have R1 := Lib.hid hC.r1
  have R2 := Lib.hid hC.r2
  have HWf := Lib.hid hG.wf
  have HG := Lib.hid hG
  have HR := Lib.hid hr
  clear hC hf hG hr
  rcases hk with rfl | rfl
  all_goals
    go_enter Try.func11, Try.ntmps11
    go_wp2_with fail
    refine (HEn.out _ HR.out).mono ?_
    rintro e w1 ⟨rfl, hd⟩
    have HD1 := Lib.hid hd
    clear hd
    go_wp2_with fail
    refine (seeR p c s _ _ _ _ (HG.out.drw HD1.out) (by decide) (by first | rfl | (simp; done)) R0.out).mono ?_
    rintro e w2 ⟨rfl, hd⟩
    have HD2 : Hid (Drw w w2) := Lib.hid (HD1.out.trans hd)
    clear hd
    go_wp2_with fail
    refine (seeR p c s _ _ _ _ (HG.out.drw HD2.out) (by decide) (by first | rfl | (simp; done)) R1.out).mono ?_
    rintro e w3 ⟨rfl, hd⟩
    have HD3 : Hid (Drw w w3) := Lib.hid (HD2.out.trans hd)
    clear hd
    go_wp2_with fail
    refine (seeR p c s _ _ _ _ (HG.out.drw HD3.out) (by decide) (by first | rfl | (simp; done)) R2.out).mono ?_
    rintro e w4 ⟨rfl, hd⟩
    have HD4 : Hid (Drw w w4) := Lib.hid (HD3.out.trans hd)
    clear hd
    go_wp2_with fail
    go_loopw [44] (fun i wr => ∃ j : Nat, j ≤ l.length ∧ i = .int .i64 j ∧ Drw w wr) (fun i _ => l.length - (intOf i).toNat)
    case atStart => exact ⟨0, Nat.zero_le _, rfl, HD4.out⟩
    case round =>
      obtain ⟨j, hj, rfl, hd⟩ := hrel
      have HD := Lib.hid hd
      clear hd
      by_cases hlt : j < l.length
      · obtain ⟨g, off, rfl, hg, hc⟩ := HR.out j (by rw [ints_length]; exact hlt)
        rw [ints_nth hlt] at hc
        have hc' : wr.cell? ⟨g, off + j, none⟩ = some (.int .i64 (l[j] : Int)) := by obtain ⟨m, hm⟩ := HD.out; rw [hm]; exact hc
        have hb := HLt.out l[j] (List.getElem_mem hlt)
        have hln := HLn.out j hlt
        have hwf := HWf.out (lnk c l[j])
        rw [hln] at hwf
        have HLN := Lib.hid hln
        have i1 : IntKind.i64.wrap (nextI (ints l) j) = nextI (ints l) j := IntWalk.i64_in _ (by omega)
        clear hc hln
        generalize l[j] = b at *
        go_wp2_with fail
        refine (seeL p c s b _ _ (HG.out.drw HD.out) hb HLN.out).mono ?_
        rintro e w5 ⟨rfl, hd⟩
        have HD5 : Hid (Drw w w5) := Lib.hid (HD.out.trans hd)
        clear hd
        go_wp2_with fail
        refine (HNx.out _ j (by omega) (HR.out.drw HD5.out)).mono ?_
        rintro e w6 ⟨rfl, rfl⟩
        go_wp2_with fail
        go_roundw
        case rel => exact ⟨j + 1, by omega, by go_num, HD5.out⟩
        case measure => simp [intOf]; omega
      · go_wp2_with fail
        go_ret
        exact ⟨rfl, HD.out⟩

end Go.Proofs.Yticlidpdmonijaa.Pk
