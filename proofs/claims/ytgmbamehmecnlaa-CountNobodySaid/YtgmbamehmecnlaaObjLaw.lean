/-
  Layer 11: the laws' opened ground; the chapter's example (of packages pool and obj that do what they must).
-/
import Derived.Test.YtgmbamehmecnlaaPool
import Derived.Test.YtgmbamehmecnlaaObj
namespace Go.Proofs.Ytgmbamehmecnlaa.Pk
open Go.RowKit
set_option linter.unusedVariables false
set_option linter.unusedSimpArgs false

theorem Opened.heap {c : Cf} {zs : List Int} (h : Opened c zs) : HeapAt c zs (List.range c.N) [] := ⟨h.1, fun o ho => absurd ho (by simp), by simp⟩
/-- The end of the laws' opened. -/
def OpenG (w : World) (c : Cf) (e : Ending) (w' : World) : Prop :=
  ∃ p zs m, e = .returned (.tuple #[.pointer (some ⟨Pl.a p, 0, none⟩), .bool true]) ∧ G w' p c ⟨zs, m⟩ ∧ HeapAt c zs (List.range c.N) [] ∧ (∀ k, inG p k → w.heap.size ≤ k) ∧ Below w.heap.size w w'
theorem opened_any (F : PoolFns) (c : Cf) (w : World) (hm : c.May) : Calls Try.prog 78 #[c.val] w (OpenG w c) := by
  have hg := gnew_yes c (w.alloc (.cells #[.int .i64 (c.N : Int), .int .i64 (c.W : Int), .int .i64 (c.R : Int), .int .i64 (c.K : Int)] 29)) hm
  unfold Cf.val at hg ⊢
  have HGN := Lib.hid hg
  obtain ⟨zo, hzo, hOp⟩ := F.open_yes c hm
  obtain ⟨dO, _, HO⟩ := hzo
  have DO := Lib.hid (fun p m w hG => HO p m w hG)
  have HOp := Lib.hid hOp
  clear hg HO hOp
  go_enter Try.func78, Try.ntmps78
  go_wp2_with fail
  refine HGN.out.mono ?_
  rintro e w1 ⟨p, rfl, hG, hp, hb⟩
  have HG := Lib.hid hG
  have HP : Hid (∀ k, inG p k → w.heap.size ≤ k) := Lib.hid (fun k hk => Nat.le_trans (below_new w _).size (hp k (Or.inr hk)))
  have HB : Hid (Below w.heap.size w w1) := Lib.hid (below_step (below_new w _) hb)
  clear hG hp hb
  go_wp2_with fail
  refine (DO.out p 0 _ HG.out).mono ?_
  rintro e w4 ⟨rfl, hG4, hT4⟩
  have HG4 := Lib.hid hG4
  have HB4 := Lib.hid (HB.out.trans (hT4.below (B := w.heap.size) HP.out HB.out.size))
  clear hG4 hT4
  go_wp2_with fail
  go_ret2
  exact ⟨p, zo, 0 + dO, rfl, HG4.out, HOp.out.heap, HP.out, HB4.out⟩
theorem opened16 (F : PoolFns) (n : Nat) (w : World) (h0 : 1 ≤ n) (h1 : n ≤ 1000) : Calls Try.prog 78 #[.agg #[.int .i64 (n : Int), .int .i64 16, .int .i64 1, .int .i64 1]] w (OpenG w (cfR n)) := opened_any F (cfR n) w (cfR_may h0 h1)

/-- A state of a heap that a law made. -/
def HSt (w : World) (p : Pl) (c : Cf) (zs : List Int) (pool : List Nat) (os : List Ob) (wr : World) : Prop :=
  ∃ m, G wr p c ⟨zs, m⟩ ∧ HeapAt c zs pool os ∧ (∀ k, inG p k → w.heap.size ≤ k) ∧ Below w.heap.size w wr
theorem HSt.wz {w wr : World} {p : Pl} {c : Cf} {zs : List Int} {pool : List Nat} {os : List Ob} (h : HSt w p c zs pool os wr) : Wz c zs := by obtain ⟨m, hG, _⟩ := h; exact hG.wz
theorem HSt.heap {w wr : World} {p : Pl} {c : Cf} {zs : List Int} {pool : List Nat} {os : List Ob} (h : HSt w p c zs pool os wr) : HeapAt c zs pool os := by obtain ⟨m, hG, hh, _⟩ := h; exact hh
theorem HSt.below {w wr : World} {p : Pl} {c : Cf} {zs : List Int} {pool : List Nat} {os : List Ob} (h : HSt w p c zs pool os wr) : Below w.heap.size w wr := by obtain ⟨m, hG, hh, _, hb⟩ := h; exact hb
theorem HSt.later {w wr w' : World} {p : Pl} {c : Cf} {zs : List Int} {pool : List Nat} {os : List Ob} (h : HSt w p c zs pool os wr) (hb : Below wr.heap.size wr w') : HSt w p c zs pool os w' := by
  obtain ⟨m, hG, hh, hp, hB⟩ := h
  exact ⟨m, hG.later hb, hh, hp, below_step hB hb⟩
theorem HSt.notG {w wr : World} {p : Pl} {c : Cf} {zs : List Int} {pool : List Nat} {os : List Ob} (h : HSt w p c zs pool os wr) {i : Nat} (hi : wr.heap.size ≤ i) : ¬ ofG p i := by
  obtain ⟨m, hG, hh, hp, hB⟩ := h
  intro hx
  have := hG.ofG_lt hx
  omega
theorem HSt.write {w wr : World} {p : Pl} {c : Cf} {zs : List Int} {pool : List Nat} {os : List Ob} (h : HSt w p c zs pool os wr) {b i : Nat} (hb : ¬ ofG p b) (hw : w.heap.size ≤ b) (v : Value) : HSt w p c zs pool os (wr.setCell ⟨b, i, none⟩ v) := by
  obtain ⟨m, hG, hh, hp, hB⟩ := h
  have hTq := (Touch.refl (fun i => i = b) wr).setCell (p := ⟨b, i, none⟩) (fun _ => rfl) v
  exact ⟨m, hG.touch hTq (fun i hi e => hb (by rw [← e]; exact hi)), hh, hp, hB.setCell (p := ⟨b, i, none⟩) hw _⟩
/-- A call, in terms of such a state. -/
theorem HSt.act {w wr : World} {p : Pl} {c : Cf} {zs zs' : List Int} {pool pool' : List Nat} {os os' : List Ob} {f : FuncId} {args : List Value} {B : Nat} {v : Value} (h : HSt w p c zs pool os wr) (ha : Acts c f args zs B zs' v) (hh : HeapAt c zs' pool' os') :
    Calls Try.prog f (List.toArray (.pointer (some ⟨p.a, 0, none⟩) :: args)) wr fun e w' => e = .returned v ∧ HSt w p c zs' pool' os' w' ∧ Touch (inG p) wr w' := by
  obtain ⟨m, hG, _, hp, hB⟩ := h
  obtain ⟨d, _, H⟩ := ha
  refine (H p m wr hG).mono ?_
  rintro e w' ⟨rfl, hG', hT⟩
  exact ⟨rfl, ⟨_, hG', hh, hp, hB.trans (hT.below hp hB.size)⟩, hT⟩
theorem HSt.look {w wr : World} {p : Pl} {c : Cf} {zs : List Int} {pool : List Nat} {os : List Ob} {f : FuncId} {args : List Value} {Q : World → Ending → World → Prop} (h : HSt w p c zs pool os wr) (ha : Looks c f args zs Q) :
    Calls Try.prog f (List.toArray (.pointer (some ⟨p.a, 0, none⟩) :: args)) wr (Q wr) := by
  obtain ⟨m, hG, _⟩ := h
  exact ha p m wr hG

set_option maxRecDepth 100000 in
set_option maxHeartbeats 1000000 in
theorem begun11_any (F : PoolFns) (O : ObjFns) (w : World) : Calls Try.prog 43 #[] w fun e w' => e = .returned (.bool true) ∧ Below w.heap.size w w' := by
  go_enter Try.func43, Try.ntmps43
  go_wp2_with fail
  refine (opened16 F 6 _ (by decide) (by decide)).mono ?_
  rintro e w1 ⟨p, z0, m0, rfl, hG, hh, hp, hb⟩
  have H0 : Hid (HSt w p (cfR 6) z0 [0, 1, 2, 3, 4, 5] [] w1) := Lib.hid ⟨m0, hG, hh, hp, hb⟩
  obtain ⟨B1, z1, A1, M1⟩ := O.make_yes (cfR 6) z0 0 [] [1, 2, 3, 4, 5] [] 2 1 hG.wz hh (by decide) (by decide)
  have HA1 := Lib.hid A1
  have HM1 := Lib.hid M1
  clear hG hh hp hb A1 M1
  go_wp2_with fail
  refine (H0.out.act HA1.out HM1.out.heap).mono ?_
  rintro e w2 ⟨rfl, h1, _⟩
  have H1 := Lib.hid h1
  obtain ⟨B2, z2, A2, M2⟩ := O.make_yes (cfR 6) z1 1 [2, 3] [4, 5] _ 0 20 h1.wz h1.heap (by decide) (by decide)
  have HA2 := Lib.hid A2
  have HM2 := Lib.hid M2
  clear h1 A2 M2
  go_wp2_with fail
  refine (H1.out.act HA2.out HM2.out.heap).mono ?_
  rintro e w3 ⟨rfl, h2, _⟩
  have H2 := Lib.hid h2
  obtain ⟨B3, z3, A3, M3⟩ := O.make_yes (cfR 6) z2 4 [] [5] _ 0 0 h2.wz h2.heap (by decide) (by decide)
  have HA3 := Lib.hid A3
  have HM3 := Lib.hid M3
  clear h2 A3 M3
  go_wp2_with fail
  refine (H2.out.act HA3.out HM3.out.heap).mono ?_
  rintro e w4 ⟨rfl, h3, _⟩
  have H3 := Lib.hid h3
  have HA4 := Lib.hid (O.blocks (cfR 6) z3 [5] _ 2 h3.wz h3.heap (by decide))
  have e4 : blkN ([] ++ [newOb 0 2 1 []] ++ [newOb 1 0 20 [2, 3]] ++ [newOb 4 0 0 []]) 2 = 3 := by decide
  rw [e4] at HA4
  have hmay : (cfR 6).May := cfR_may (by decide) (by decide)
  have hf : fieldA (cfR 6) (newOb 0 2 1 []) 1 = some (adr (cfR 6) 0 9) := by decide
  have HA5 := Lib.hid (O.setptr_yes (cfR 6) z3 [5] _ (newOb 0 2 1 []) 1 _ 5 h3.wz h3.heap (by simp) (by decide) hf (by decide) (by decide))
  have S5 := h3.heap.setField hmay h3.wz.len (o := newOb 0 2 1 []) (i := 1) (by simp) (by decide) hf 5
  have HS5 := Lib.hid S5
  clear h3 e4 S5
  generalize hz5 : z3.set (adr (cfR 6) 0 9) 5 = z5 at *
  go_wp2_with fail
  refine (H3.out.act HA4.out H3.out.heap).mono ?_
  rintro e w5 ⟨rfl, h4, _⟩
  have H4 := Lib.hid h4
  clear h4
  go_wp2_with fail
  refine (H4.out.act HA5.out HS5.out.1).mono ?_
  rintro e w6 ⟨rfl, h5, _⟩
  have H5 := Lib.hid h5
  have HA6 := Lib.hid (O.ptr (cfR 6) z5 [5] _ 1 1 h5.wz h5.heap (by decide))
  have e6 : ptrV (cfR 6) z5 ([] ++ [newOb 0 2 1 []] ++ [newOb 1 0 20 [2, 3]] ++ [newOb 4 0 0 []]) 1 1 = 5 := by
    have := HS5.out.2 (newOb 0 2 1 []) 1 (by simp) (by decide)
    rw [if_pos ⟨rfl, rfl⟩] at this
    exact this
  have e7 : ptrE (cfR 6) ([] ++ [newOb 0 2 1 []] ++ [newOb 1 0 20 [2, 3]] ++ [newOb 4 0 0 []]) 1 1 = 0 := by decide
  rw [e6, e7] at HA6
  obtain ⟨B7, z7, A7, hh7, _⟩ := O.shed_yes (cfR 6) z5 [5] _ (newOb 1 0 20 [2, 3]) 1 3 h5.wz h5.heap (by simp) rfl
  have HA7 := Lib.hid A7
  have HH7 := Lib.hid hh7
  clear h5 e6 e7 A7 hh7 hmay hf
  go_wp2_with fail
  refine (H5.out.act HA6.out H5.out.heap).mono ?_
  rintro e w7 ⟨rfl, h6, _⟩
  have H6 := Lib.hid h6
  clear h6
  go_wp2_with fail
  refine (H6.out.act HA7.out HH7.out).mono ?_
  rintro e w8 ⟨rfl, h7, _⟩
  have H7 := Lib.hid h7
  obtain ⟨B8, A8⟩ := O.shed_no (cfR 6) z7 [3, 5] _ 2 1 h7.wz h7.heap (by decide) (by
    intro o ho k b hk hl
    obtain rfl : k = 1 := by omega
    have : o = newOb 1 0 20 [2, 3] ∨ True := Or.inr trivial
    have e : obAt (shedOs ([] ++ [newOb 0 2 1 []] ++ [newOb 1 0 20 [2, 3]] ++ [newOb 4 0 0 []]) (newOb 1 0 20 [2, 3]) 1) 2 = some (shedOb (newOb 1 0 20 [2, 3]) 1) := by rfl
    rw [e] at ho
    cases ho
    exact absurd hl (by simp [shedOb, newOb]))
  have HA8 := Lib.hid A8
  have HL := Lib.hid (fun m w' hG => F.list (cfR 6) z7 [3, 5] h7.wz h7.heap.pl.ch p m w' hG)
  clear h7 A8
  go_wp2_with fail
  refine (H7.out.act HA8.out H7.out.heap).mono ?_
  rintro e w9 ⟨rfl, h8, _⟩
  have H8 := Lib.hid h8
  clear h8
  go_wp2_with fail
  refine (H8.out.look (fun p' m w' hG => F.list (cfR 6) z7 [3, 5] hG.wz H8.out.heap.pl.ch p' m w' hG)).mono ?_
  rintro e w10 ⟨a5, cap5, rfl, hr5, hf5, hb⟩
  have HR5 := Lib.hid hr5
  have HB5 := Lib.hid (below_step H8.out.below hb)
  clear hr5 hf5 hb
  go_wp2_with fail
  refine (rcInts_same a5 _ cap5 2 [3, 5] _ (HR5.out.alloc _) (Row.lit w10 .i64 [3, 5] 3) (by decide)).mono ?_
  rintro e w11 ⟨rfl, hd⟩
  have HB6 := Lib.hid (below_step (HB5.out.alloc HB5.out.size _) hd.new)
  clear hd
  go_wp2_with fail
  go_ret
  exact ⟨rfl, HB6.out⟩

end Go.Proofs.Ytgmbamehmecnlaa.Pk
