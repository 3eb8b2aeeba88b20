/-
  Texts laid together: ActsWz, GravW, GraveFn, GraveFn2, GravSan, GraveDo, GraveStep, GravNam, GravCnt.
-/
import Derived.Test.YtljdbaddockfcaaGreatTintFn4Etc
import Derived.Test.YtljdbaddockfcaaGreatObjFn4Etc
import Derived.Lib.MinMax
/-
  What a call over a ground leaves are words that a ground may have: so contracts can be laid one behind the other. Tight bounds for package tint.
-/
namespace Go.Proofs.YtljdbaddockfcaaGreat.Pk
open Go.RowKit
set_option linter.unusedVariables false
set_option linter.unusedSimpArgs false
set_option maxRecDepth 100000

theorem World.size_alloc (w : World) (o : Obj) : (w.alloc o).heap.size = w.heap.size + 1 := by simp
theorem G_exists {c : Cf} {zs : List Int} (hz : Wz c zs) : ∃ (p : Pl) (w : World), G w p c ⟨zs, 0⟩ := by
  refine ⟨⟨(default : World).heap.size, (default : World).heap.size + 1, (default : World).heap.size + 2⟩, (((default : World).alloc (.cells #[.pointer (some ⟨(default : World).heap.size + 1, 0, none⟩), .int .i64 (c.N : Int), .int .i64 (c.W : Int), .int .i64 (c.R : Int), .int .i64 (c.K : Int)] 76)).alloc (.cells #[.slice (some ⟨(default : World).heap.size + 2, 0, none⟩) zs.length zs.length, .int .u64 (u64m 0)] 178)).alloc (.cells (words zs) 79), ?_⟩
  refine ⟨((Blk.new _ _ _).alloc _).alloc _, ⟨?_, ?_, ?_⟩, hz.len, ?_, ?_, hz.may, hz.wf⟩
  · have := Blk.new ((default : World).alloc (.cells #[.pointer (some ⟨(default : World).heap.size + 1, 0, none⟩), .int .i64 (c.N : Int), .int .i64 (c.W : Int), .int .i64 (c.R : Int), .int .i64 (c.K : Int)] 76)) #[.slice (some ⟨(default : World).heap.size + 2, 0, none⟩) zs.length zs.length, .int .u64 (u64m 0)] 178
    rw [World.size_alloc] at this
    exact this.alloc _
  · have := Blk.new (((default : World).alloc (.cells #[.pointer (some ⟨(default : World).heap.size + 1, 0, none⟩), .int .i64 (c.N : Int), .int .i64 (c.W : Int), .int .i64 (c.R : Int), .int .i64 (c.K : Int)] 76)).alloc (.cells #[.slice (some ⟨(default : World).heap.size + 2, 0, none⟩) zs.length zs.length, .int .u64 (u64m 0)] 178)) (words zs) 79
    rw [World.size_alloc, World.size_alloc] at this
    exact this
  · show (default : World).heap.size + 1 ≠ (default : World).heap.size + 2
    omega
  · show (default : World).heap.size ≠ (default : World).heap.size + 1
    omega
  · show (default : World).heap.size ≠ (default : World).heap.size + 2
    omega
theorem Acts.wz {c : Cf} {f : FuncId} {args : List Value} {zs zs' : List Int} {B : Nat} {v : Value} (hz : Wz c zs) (h : Acts c f args zs B zs' v) : Wz c zs' := by
  obtain ⟨p, w, hG⟩ := G_exists hz
  obtain ⟨d, _, H⟩ := h
  obtain ⟨e, w', fr, ⟨_, hG', _⟩, _⟩ := H p 0 w hG []
  exact hG'.wz
theorem Does.at {c : Cf} {D D' : Wd} {f : FuncId} {args : List Value} {B : Nat} {v : Value} (h : Does c D f args B D' v) {zs : List Int} (hz : Wz c zs) (R : RepW c zs D) : ∃ zs', Acts c f args zs B zs' v ∧ RepW c zs' D' ∧ Wz c zs' := by
  obtain ⟨zs', A, R'⟩ := h zs hz R
  exact ⟨zs', A, R', A.wz hz⟩
end Go.Proofs.YtljdbaddockfcaaGreat.Pk

/-
  Layer 14: the grave over a world, as plain data: who is laid into it, what a step does; what stays true of a world whose dead all lie in the grave. No program in sight.
-/
namespace Go.Proofs.YtljdbaddockfcaaGreat.Pk
open Go.RowKit
set_option linter.unusedVariables false
set_option linter.unusedSimpArgs false

section
variable (D : Wd) (r : Int)
/-- r's object t is laid into the grave, behind all others. -/
def Wd.lay (t : Th) : Wd :=
  { (({ (D.kill r).lessRing t.h with scan := if D.scan = r then 0 else D.scan } : Wd).mark r (fun m => { m with left := (t.pt.length : Int) })).mark r (fun m => { m with leaves := (t.lv.length : Int) }) with
    grave := D.grave ++ [t.h + 1], pending := D.pending + (1 + (t.lv.length : Int)) }
def Wd.buryB : Bool := match D.find r with | none => false | some t => !t.mr.dead
def Wd.bury : Wd := match D.find r with | none => D | some t => if t.mr.dead then D else D.lay r t
def Wd.interB : Bool := decide (D.cnt r = 0) && D.buryB r
def Wd.inter : Wd := if D.cnt r = 0 then D.bury r else D
/-- The pointer field i of r's object, which holds x, is drained. -/
def Wd.drain (i : Nat) (x : Int) : Wd :=
  if (D.setP r i 0).cnt x = 0 then D.setP r i 0
  else let D2 := if (D.setP r i 0).counted r i then (D.setP r i 0).lighten x else D.setP r i 0
    if (D2.down x).cnt x = 0 then (D2.down x).bury x else D2.down x
/-- How many fields lie ahead of the last one of so many leaves. -/
def Wd.ahead (l : Int) : Int := (if 0 < l then l - 1 else 0) * ((D.w : Int) - 1)
/-- What a step does to the first one in the grave. -/
def Wd.work (g : Nat) (rest : List Nat) (t : Th) : Wd :=
  if D.ahead t.mr.leaves < t.mr.left then (D.drain g (t.mr.left - 1).toNat (nth t.pt (t.mr.left - 1).toNat)).mark g (fun m => { m with left := t.mr.left - 1 })
  else if 0 < t.mr.leaves then { (D.cutLeaf g (t.mr.leaves - 1).toNat (nth t.lv (t.mr.leaves - 1).toNat).toNat).mark g (fun m => { m with leaves := t.mr.leaves - 1 }) with pending := D.pending - 1 }
  else { ({ D with grave := rest } : Wd).endAt g t.h with pending := D.pending - 1 }
def Wd.step : Wd := match D.grave with
  | [] => D
  | g :: rest => match D.find (g : Int) with | none => D | some t => D.work g rest t
end

/-! ### What stays true -/
/-- What is left of a dead object. -/
structure DOk (w : Nat) (t : Th) : Prop where
  l0 : 0 ≤ t.mr.leaves
  l1 : t.mr.leaves ≤ (t.lv.length : Int)
  f0 : 0 ≤ t.mr.left
  f1 : t.mr.left ≤ (t.pt.length : Int)
  fl : t.lv ≠ [] → t.mr.left ≤ t.mr.leaves * ((w : Int) - 1)
  there : ∀ j : Nat, (j : Int) < t.mr.leaves → ∃ b : Nat, t.lv[j]? = some (b : Int)
  gone : ∀ j : Nat, t.mr.leaves ≤ (j : Int) → j < t.lv.length → t.lv[j]? = some (-1)
  zero : ∀ i : Nat, t.mr.left ≤ (i : Int) → nth t.pt i = 0
/-- An object's size, and that of its leaves. -/
structure Geo (w : Nat) (t : Th) : Prop where
  small : t.pt.length + t.dt.length ≤ w - 8 → t.lv = []
  big : ¬ t.pt.length + t.dt.length ≤ w - 8 → t.lv ≠ [] ∧ t.pt.length + t.dt.length ≤ t.lv.length * (w - 1)
def AOk (t : Th) : Prop := ∀ j : Nat, j < t.lv.length → ∃ b : Nat, t.lv[j]? = some (b : Int)
/-- An object of a world in which just those lie in the grave that are dead. -/
structure OkT (w : Nat) (gr : List Nat) (t : Th) : Prop where
  geo : Geo w t
  iff_ : t.mr.dead = true ↔ t.h + 1 ∈ gr
  dead : t.mr.dead = true → DOk w t
  alive : t.mr.dead = false → AOk t
/-- How many blocks are pending for an object. -/
def pendT (t : Th) : Nat := if t.mr.dead then 1 + t.mr.leaves.toNat else 0
def sumL (φ : Th → Nat) (l : List Th) : Nat := ((liveL l).map φ).sum
structure San (D : Wd) : Prop where
  w : 16 ≤ D.w
  nd : (D.live.map Th.h).Nodup
  gd : D.grave.Nodup
  gv : ∀ g, g ∈ D.grave → ∃ t, t ∈ D.live ∧ t.h + 1 = g
  ok : ∀ t, t ∈ D.live → OkT D.w D.grave t
  ring : ∀ t, t ∈ D.live → t.h ∈ D.ring → t.mr.dead = false
  pend : D.pending = (sumL pendT D.ts : Int)

section
variable {r : Int} {t : Th} {g : Th → Th} {φ : Th → Nat}
theorem sumL_cons (u : Th) (l : List Th) : sumL φ (u :: l) = (if u.ended then 0 else φ u) + sumL φ l := by
  unfold sumL
  rw [live_cons]
  cases u.ended <;> simp
theorem sumL_upd : ∀ {l : List Th}, findL r l = some t → (g t).ended = false → sumL φ (updL r g l) + φ t = sumL φ l + φ (g t)
  | [], h, _ => by simp [findL] at h
  | u :: l, h, hg => by
    unfold findL at h
    unfold updL
    cases hu : u.at r with
    | true =>
      rw [hu] at h
      simp at h
      subst h
      have hue : u.ended = false := by unfold Th.at at hu; simp at hu; exact hu.1
      rw [if_pos rfl, sumL_cons, sumL_cons, hg, hue]
      simp
      omega
    | false =>
      rw [hu] at h
      simp at h
      have := sumL_upd h hg
      rw [if_neg (by simp), sumL_cons, sumL_cons]
      omega
theorem sumL_end : ∀ {l : List Th}, findL r l = some t → (g t).ended = true → sumL φ (updL r g l) + φ t = sumL φ l
  | [], h, _ => by simp [findL] at h
  | u :: l, h, hg => by
    unfold findL at h
    unfold updL
    cases hu : u.at r with
    | true =>
      rw [hu] at h
      simp at h
      subst h
      have hue : u.ended = false := by unfold Th.at at hu; simp at hu; exact hu.1
      rw [if_pos rfl, sumL_cons, sumL_cons, hg, hue]
      simp
      omega
    | false =>
      rw [hu] at h
      simp at h
      have := sumL_end h hg
      rw [if_neg (by simp), sumL_cons, sumL_cons]
      omega
theorem sumL_mem {l : List Th} (h : t ∈ liveL l) : φ t ≤ sumL φ l := by
  induction l with
  | nil => simp [liveL] at h
  | cons u l ih =>
    rw [live_cons] at h
    rw [sumL_cons]
    cases hu : u.ended with
    | true => rw [hu] at h; simp at h ⊢; exact ih h
    | false =>
      rw [hu] at h
      simp at h ⊢
      rcases h with rfl | h
      · omega
      · have := ih h; omega
end
end Go.Proofs.YtljdbaddockfcaaGreat.Pk

/-
  What the functions of package grave return: by what the calls in them do to words.
-/
namespace Go.Proofs.YtljdbaddockfcaaGreat.Pk
open Go.RowKit
set_option linter.unusedVariables false
set_option linter.unusedSimpArgs false
set_option maxRecDepth 100000

/-- A call over a ground with these words: it makes d accesses, leaves zs' and returns v. -/
abbrev Run (c : Cf) (f : FuncId) (args : List Value) (zs : List Int) (d : Nat) (zs' : List Int) (v : Value) : Prop :=
  ∀ (p : Pl) (m : Nat) (w : World), G w p c ⟨zs, m⟩ → Calls Tryz.prog f (List.toArray (.pointer (some ⟨p.a, 0, none⟩) :: args)) w (GP w p c ⟨zs', m + d⟩ v)
section
variable {c : Cf} {zs zs1 zs2 zs3 : List Int} {d1 d2 d3 d4 : Nat}
/-! ### bury -/
theorem gw_bury_no {r : Int} (C1 : Run c 47 [.int .i64 r] zs d1 zs1 (.bool false)) : Run c 58 [.int .i64 r] zs d1 zs1 (.bool false) := fun p m w hG => by
  have HG := Lib.hid hG
  have HC := Lib.hid C1
  clear hG C1
  go_enter Tryz.func58, Tryz.ntmps58
  have HT0 : Hid (Touch (inG p) w w) := Lib.hid (Touch.refl _ _)
  go_wp2_with fail
  refine (HC.out p _ _ HG.out).mono ?_
  rintro e wm1 ⟨rfl, hG, hT⟩
  have HG1 := Lib.hid hG
  have HT1 : Hid (Touch (inG p) _ wm1) := Lib.hid (HT0.out.trans hT)
  clear hG hT
  go_wp2_with fail
  go_ret
  exact ⟨rfl, HG1.out, HT1.out⟩
set_option maxHeartbeats 1000000 in
theorem gw_bury_scan {h np nd L : Nat} {b2 : Bool} {P : Int} (hm : c.May) (hh : h < c.N) (C1 : Run c 47 [.int .i64 ((h : Int) + 1)] zs d1 zs1 (.bool true)) (C2 : Run c 113 [.int .i64 (h : Int)] zs1 d2 zs2 (.bool b2))
    (h14 : nth zs2 14 = (h : Int) + 1) (C3 : Run c 114 [.int .i64 ((h : Int) + 1)] (zs2.set 14 0) d3 (zs2.set 14 0) (.tuple #[.int .i64 (np : Int), .int .i64 (nd : Int), .int .i64 0]))
    (C4 : Run c 18 [.int .i64 ((h : Int) + 1)] (zs2.set 14 0) d4 (zs2.set 14 0) (.int .i64 (1 + (L : Int)))) (hnp : np ≤ 100000) (hL : L ≤ 1000)
    (C5 : Run c 115 [.int .i64 1, .int .i64 (h : Int)] (((zs2.set 14 0).set (adr c h 6) np).set (adr c h 7) L) 6 (addZ c 1 h (((zs2.set 14 0).set (adr c h 6) np).set (adr c h 7) L)) (.bool true))
    (h6 : nth (addZ c 1 h (((zs2.set 14 0).set (adr c h 6) np).set (adr c h 7) L)) 6 = P) (hP0 : 0 ≤ P) (hP1 : P ≤ 4294900000) :
    Run c 58 [.int .i64 ((h : Int) + 1)] zs (d1 + d2 + 2 + d3 + d4 + 10) ((addZ c 1 h (((zs2.set 14 0).set (adr c h 6) np).set (adr c h 7) L)).set 6 (P + (1 + (L : Int)))) (.bool true) := fun p m w hG => by
  have hw := hm.w
  have hn := hm.n
  have e1 : IntKind.i64.wrap ((h : Int) + 1 - 1) = (h : Int) := by rw [IntWalk.i64_in _ (by omega)]; omega
  have e1b : IntKind.i64.wrap (h : Int) = (h : Int) := IntWalk.i64_in _ (by omega)
  have e3b : IntKind.i64.wrap (L : Int) = (L : Int) := IntWalk.i64_in _ (by omega)
  have e2 : IntKind.u32.wrap (np : Int) = (np : Int) := IntWalk.u32_in _ (by omega)
  have e3 : IntKind.i64.wrap (1 + (L : Int) - 1) = (L : Int) := by rw [IntWalk.i64_in _ (by omega)]; omega
  have e4 : max (L : Int) 0 = (L : Int) := by omega
  have e5 : IntKind.u32.wrap (L : Int) = (L : Int) := IntWalk.u32_in _ (by omega)
  have e6 : IntKind.i64.wrap (P + (1 + (L : Int))) = P + (1 + (L : Int)) := IntWalk.i64_in _ (by omega)
  have HV6 : Hid (6 < c.W) := Lib.hid (by omega)
  have HV7 : Hid (7 < c.W) := Lib.hid (by omega)
  have HN0 : Hid ((0 : Int) ≤ np) := Lib.hid (by omega)
  have HN1 : Hid ((np : Int) ≤ 4294967295) := Lib.hid (by omega)
  have HL0 : Hid ((0 : Int) ≤ L) := Lib.hid (by omega)
  have HL1 : Hid ((L : Int) ≤ 4294967295) := Lib.hid (by omega)
  have HP0 : Hid (0 ≤ P + (1 + (L : Int))) := Lib.hid (by omega)
  have HP1 : Hid (P + (1 + (L : Int)) ≤ 4294967295) := Lib.hid (by omega)
  have HG := Lib.hid hG
  have HH := Lib.hid hh
  have HC1 := Lib.hid C1
  have HC2 := Lib.hid C2
  have HC3 := Lib.hid C3
  have HC4 := Lib.hid C4
  have HC5 := Lib.hid C5
  have H14 := Lib.hid h14
  have H6 := Lib.hid h6
  clear hG C1 C2 C3 C4 C5 h14 h6 hh hm hw hn hP0 hP1 hL hnp
  go_enter Tryz.func58, Tryz.ntmps58
  have HT0 : Hid (Touch (inG p) w w) := Lib.hid (Touch.refl _ _)
  go_wp2_with fail
  refine (HC1.out p _ _ HG.out).mono ?_
  rintro e wm1 ⟨rfl, hG, hT⟩
  have HG1 := Lib.hid hG
  have HT1 : Hid (Touch (inG p) _ wm1) := Lib.hid (HT0.out.trans hT)
  clear hG hT
  go_wp2_with fail
  refine (HC2.out p _ _ HG1.out).mono ?_
  rintro e wm2 ⟨rfl, hG, hT⟩
  have HG2 := Lib.hid hG
  have HT2 : Hid (Touch (inG p) _ wm2) := Lib.hid (HT1.out.trans hT)
  clear hG hT
  go_wp2_with fail
  refine (regR p c _ 14 _ _ _ HG2.out (by omega) rfl H14.out).mono ?_
  rintro e wm3 ⟨rfl, hG, hT⟩
  have HG3 := Lib.hid hG
  have HT3 : Hid (Touch (inG p) _ wm3) := Lib.hid (HT2.out.trans hT)
  clear hG hT
  go_wp2_with fail
  refine (setregR p c _ 14 _ 0 _ HG3.out (by omega) rfl (by omega) (by omega)).mono ?_
  rintro e wm4 ⟨rfl, hG, hT⟩
  have HG4 := Lib.hid hG
  have HT4 : Hid (Touch (inG p) _ wm4) := Lib.hid (HT3.out.trans hT)
  clear hG hT
  go_wp2_with fail
  refine (HC3.out p _ _ HG4.out).mono ?_
  rintro e wm5 ⟨rfl, hG, hT⟩
  have HG5 := Lib.hid hG
  have HT5 : Hid (Touch (inG p) _ wm5) := Lib.hid (HT4.out.trans hT)
  clear hG hT
  go_wp2_with fail
  refine (HC4.out p _ _ HG5.out).mono ?_
  rintro e wm6 ⟨rfl, hG, hT⟩
  have HG6 := Lib.hid hG
  have HT6 : Hid (Touch (inG p) _ wm6) := Lib.hid (HT5.out.trans hT)
  clear hG hT
  go_wp2_with fail
  refine (setwordW p c _ h 6 _ _ _ _ HG6.out HH.out HV6.out rfl rfl HN0.out HN1.out).mono ?_
  rintro e wm7 ⟨rfl, hG, hT⟩
  have HG7 := Lib.hid hG
  have HT7 : Hid (Touch (inG p) _ wm7) := Lib.hid (HT6.out.trans hT)
  clear hG hT
  go_wp2_with fail
  refine (setwordW p c _ h 7 _ _ _ _ HG7.out HH.out HV7.out rfl rfl HL0.out HL1.out).mono ?_
  rintro e wm8 ⟨rfl, hG, hT⟩
  have HG8 := Lib.hid hG
  have HT8 : Hid (Touch (inG p) _ wm8) := Lib.hid (HT7.out.trans hT)
  clear hG hT
  go_wp2_with fail
  refine (HC5.out p _ _ HG8.out).mono ?_
  rintro e wm9 ⟨rfl, hG, hT⟩
  have HG9 := Lib.hid hG
  have HT9 : Hid (Touch (inG p) _ wm9) := Lib.hid (HT8.out.trans hT)
  clear hG hT
  go_wp2_with fail
  refine (regR p c _ 6 _ _ _ HG9.out (by omega) rfl H6.out).mono ?_
  rintro e wm10 ⟨rfl, hG, hT⟩
  have HG10 := Lib.hid hG
  have HT10 : Hid (Touch (inG p) _ wm10) := Lib.hid (HT9.out.trans hT)
  clear hG hT
  go_wp2_with fail
  refine (setregR p c _ 6 _ _ _ HG10.out (by omega) rfl HP0.out HP1.out).mono ?_
  rintro e wm11 ⟨rfl, hG, hT⟩
  have HG11 := Lib.hid hG
  have HT11 : Hid (Touch (inG p) _ wm11) := Lib.hid (HT10.out.trans hT)
  clear hG hT
  go_wp2_with fail
  go_ret
  exact ⟨rfl, HG11.out.to' rfl (by dsimp only [St.got, St.set]; omega), HT11.out⟩
set_option maxHeartbeats 1000000 in
theorem gw_bury_free {h np nd L : Nat} {b2 : Bool} {P x : Int} (hm : c.May) (hh : h < c.N) (C1 : Run c 47 [.int .i64 ((h : Int) + 1)] zs d1 zs1 (.bool true)) (C2 : Run c 113 [.int .i64 (h : Int)] zs1 d2 zs2 (.bool b2))
    (h14 : nth zs2 14 = x) (hx : x ≠ (h : Int) + 1) (C3 : Run c 114 [.int .i64 ((h : Int) + 1)] zs2 d3 zs2 (.tuple #[.int .i64 (np : Int), .int .i64 (nd : Int), .int .i64 0]))
    (C4 : Run c 18 [.int .i64 ((h : Int) + 1)] zs2 d4 zs2 (.int .i64 (1 + (L : Int)))) (hnp : np ≤ 100000) (hL : L ≤ 1000)
    (C5 : Run c 115 [.int .i64 1, .int .i64 (h : Int)] ((zs2.set (adr c h 6) np).set (adr c h 7) L) 6 (addZ c 1 h ((zs2.set (adr c h 6) np).set (adr c h 7) L)) (.bool true))
    (h6 : nth (addZ c 1 h ((zs2.set (adr c h 6) np).set (adr c h 7) L)) 6 = P) (hP0 : 0 ≤ P) (hP1 : P ≤ 4294900000) :
    Run c 58 [.int .i64 ((h : Int) + 1)] zs (d1 + d2 + 1 + d3 + d4 + 10) ((addZ c 1 h ((zs2.set (adr c h 6) np).set (adr c h 7) L)).set 6 (P + (1 + (L : Int)))) (.bool true) := fun p m w hG => by
  have hw := hm.w
  have hn := hm.n
  have e1 : IntKind.i64.wrap ((h : Int) + 1 - 1) = (h : Int) := by rw [IntWalk.i64_in _ (by omega)]; omega
  have e1b : IntKind.i64.wrap (h : Int) = (h : Int) := IntWalk.i64_in _ (by omega)
  have e3b : IntKind.i64.wrap (L : Int) = (L : Int) := IntWalk.i64_in _ (by omega)
  have e2 : IntKind.u32.wrap (np : Int) = (np : Int) := IntWalk.u32_in _ (by omega)
  have e3 : IntKind.i64.wrap (1 + (L : Int) - 1) = (L : Int) := by rw [IntWalk.i64_in _ (by omega)]; omega
  have e4 : max (L : Int) 0 = (L : Int) := by omega
  have e5 : IntKind.u32.wrap (L : Int) = (L : Int) := IntWalk.u32_in _ (by omega)
  have e6 : IntKind.i64.wrap (P + (1 + (L : Int))) = P + (1 + (L : Int)) := IntWalk.i64_in _ (by omega)
  have ex : (x == (h : Int) + 1) = false := neq_b hx
  have HV6 : Hid (6 < c.W) := Lib.hid (by omega)
  have HV7 : Hid (7 < c.W) := Lib.hid (by omega)
  have HN0 : Hid ((0 : Int) ≤ np) := Lib.hid (by omega)
  have HN1 : Hid ((np : Int) ≤ 4294967295) := Lib.hid (by omega)
  have HL0 : Hid ((0 : Int) ≤ L) := Lib.hid (by omega)
  have HL1 : Hid ((L : Int) ≤ 4294967295) := Lib.hid (by omega)
  have HP0 : Hid (0 ≤ P + (1 + (L : Int))) := Lib.hid (by omega)
  have HP1 : Hid (P + (1 + (L : Int)) ≤ 4294967295) := Lib.hid (by omega)
  have HG := Lib.hid hG
  have HH := Lib.hid hh
  have HC1 := Lib.hid C1
  have HC2 := Lib.hid C2
  have HC3 := Lib.hid C3
  have HC4 := Lib.hid C4
  have HC5 := Lib.hid C5
  have H14 := Lib.hid h14
  have H6 := Lib.hid h6
  clear hG C1 C2 C3 C4 C5 h14 h6 hh hm hw hn hP0 hP1 hL hnp hx
  go_enter Tryz.func58, Tryz.ntmps58
  have HT0 : Hid (Touch (inG p) w w) := Lib.hid (Touch.refl _ _)
  go_wp2_with fail
  refine (HC1.out p _ _ HG.out).mono ?_
  rintro e wm1 ⟨rfl, hG, hT⟩
  have HG1 := Lib.hid hG
  have HT1 : Hid (Touch (inG p) _ wm1) := Lib.hid (HT0.out.trans hT)
  clear hG hT
  go_wp2_with fail
  refine (HC2.out p _ _ HG1.out).mono ?_
  rintro e wm2 ⟨rfl, hG, hT⟩
  have HG2 := Lib.hid hG
  have HT2 : Hid (Touch (inG p) _ wm2) := Lib.hid (HT1.out.trans hT)
  clear hG hT
  go_wp2_with fail
  refine (regR p c _ 14 _ _ _ HG2.out (by omega) rfl H14.out).mono ?_
  rintro e wm3 ⟨rfl, hG, hT⟩
  have HG3 := Lib.hid hG
  have HT3 : Hid (Touch (inG p) _ wm3) := Lib.hid (HT2.out.trans hT)
  clear hG hT
  go_wp2_with fail
  refine (HC3.out p _ _ HG3.out).mono ?_
  rintro e wm4 ⟨rfl, hG, hT⟩
  have HG4 := Lib.hid hG
  have HT4 : Hid (Touch (inG p) _ wm4) := Lib.hid (HT3.out.trans hT)
  clear hG hT
  go_wp2_with fail
  refine (HC4.out p _ _ HG4.out).mono ?_
  rintro e wm5 ⟨rfl, hG, hT⟩
  have HG5 := Lib.hid hG
  have HT5 : Hid (Touch (inG p) _ wm5) := Lib.hid (HT4.out.trans hT)
  clear hG hT
  go_wp2_with fail
  refine (setwordW p c _ h 6 _ _ _ _ HG5.out HH.out HV6.out rfl rfl HN0.out HN1.out).mono ?_
  rintro e wm6 ⟨rfl, hG, hT⟩
  have HG6 := Lib.hid hG
  have HT6 : Hid (Touch (inG p) _ wm6) := Lib.hid (HT5.out.trans hT)
  clear hG hT
  go_wp2_with fail
  refine (setwordW p c _ h 7 _ _ _ _ HG6.out HH.out HV7.out rfl rfl HL0.out HL1.out).mono ?_
  rintro e wm7 ⟨rfl, hG, hT⟩
  have HG7 := Lib.hid hG
  have HT7 : Hid (Touch (inG p) _ wm7) := Lib.hid (HT6.out.trans hT)
  clear hG hT
  go_wp2_with fail
  refine (HC5.out p _ _ HG7.out).mono ?_
  rintro e wm8 ⟨rfl, hG, hT⟩
  have HG8 := Lib.hid hG
  have HT8 : Hid (Touch (inG p) _ wm8) := Lib.hid (HT7.out.trans hT)
  clear hG hT
  go_wp2_with fail
  refine (regR p c _ 6 _ _ _ HG8.out (by omega) rfl H6.out).mono ?_
  rintro e wm9 ⟨rfl, hG, hT⟩
  have HG9 := Lib.hid hG
  have HT9 : Hid (Touch (inG p) _ wm9) := Lib.hid (HT8.out.trans hT)
  clear hG hT
  go_wp2_with fail
  refine (setregR p c _ 6 _ _ _ HG9.out (by omega) rfl HP0.out HP1.out).mono ?_
  rintro e wm10 ⟨rfl, hG, hT⟩
  have HG10 := Lib.hid hG
  have HT10 : Hid (Touch (inG p) _ wm10) := Lib.hid (HT9.out.trans hT)
  clear hG hT
  go_wp2_with fail
  go_ret
  exact ⟨rfl, HG10.out.to' rfl (by dsimp only [St.got, St.set]; omega), HT10.out⟩
/-! ### Bury -/
theorem gw_Bury_named {r n : Int} (hn : n ≠ 0) (C1 : Run c 15 [.int .i64 r] zs d1 zs (.int .i64 n)) : Run c 11 [.int .i64 r] zs d1 zs (.bool false) := fun p m w hG => by
  have hb : (n == 0) = false := neq_b hn
  have HG := Lib.hid hG
  have HC := Lib.hid C1
  clear hG C1 hn
  go_enter Tryz.func11, Tryz.ntmps11
  have HT0 : Hid (Touch (inG p) w w) := Lib.hid (Touch.refl _ _)
  go_wp2_with fail
  refine (HC.out p _ _ HG.out).mono ?_
  rintro e wm1 ⟨rfl, hG, hT⟩
  have HG1 := Lib.hid hG
  have HT1 : Hid (Touch (inG p) _ wm1) := Lib.hid (HT0.out.trans hT)
  clear hG hT
  go_wp2_with fail
  go_ret
  exact ⟨rfl, HG1.out, HT1.out⟩
theorem gw_Bury {r : Int} {b : Bool} (C1 : Run c 15 [.int .i64 r] zs d1 zs (.int .i64 0)) (C2 : Run c 58 [.int .i64 r] zs d2 zs2 (.bool b)) : Run c 11 [.int .i64 r] zs (d1 + d2) zs2 (.bool b) := fun p m w hG => by
  have HG := Lib.hid hG
  have HC := Lib.hid C1
  have HC2 := Lib.hid C2
  clear hG C1 C2
  go_enter Tryz.func11, Tryz.ntmps11
  have HT0 : Hid (Touch (inG p) w w) := Lib.hid (Touch.refl _ _)
  go_wp2_with fail
  refine (HC.out p _ _ HG.out).mono ?_
  rintro e wm1 ⟨rfl, hG, hT⟩
  have HG1 := Lib.hid hG
  have HT1 : Hid (Touch (inG p) _ wm1) := Lib.hid (HT0.out.trans hT)
  clear hG hT
  go_wp2_with fail
  refine (HC2.out p _ _ HG1.out).mono ?_
  rintro e wm2 ⟨rfl, hG, hT⟩
  have HG2 := Lib.hid hG
  have HT2 : Hid (Touch (inG p) _ wm2) := Lib.hid (HT1.out.trans hT)
  clear hG hT
  go_wp2_with fail
  go_ret
  exact ⟨rfl, HG2.out.to' rfl (by dsimp only; omega), HT2.out⟩
/-! ### drain -/
end
end Go.Proofs.YtljdbaddockfcaaGreat.Pk

/-
  What the functions of package grave return: a step.
-/
namespace Go.Proofs.YtljdbaddockfcaaGreat.Pk
open Go.RowKit
set_option linter.unusedVariables false
set_option linter.unusedSimpArgs false
set_option maxRecDepth 100000

section
variable {c : Cf} {zs zs1 zs2 zs3 : List Int} {d1 d2 d3 d4 : Nat}
theorem gw_Pending {P : Int} (hP : nth zs 6 = P) : Run c 19 [] zs 1 zs (.int .i64 P) := fun p m w hG => by
  have HG := Lib.hid hG
  have HP := Lib.hid hP
  clear hG hP
  go_enter Tryz.func19, Tryz.ntmps19
  have HT0 : Hid (Touch (inG p) w w) := Lib.hid (Touch.refl _ _)
  go_wp2_with fail
  refine (regR p c _ 6 _ _ _ HG.out (by omega) rfl HP.out).mono ?_
  rintro e wm1 ⟨rfl, hG, hT⟩
  have HG1 := Lib.hid hG
  have HT1 : Hid (Touch (inG p) _ wm1) := Lib.hid (HT0.out.trans hT)
  clear hG hT
  go_wp2_with fail
  go_ret
  exact ⟨rfl, HG1.out, HT1.out⟩
end
end Go.Proofs.YtljdbaddockfcaaGreat.Pk

/-
  What stays true of a world whose dead all lie in the grave, whatever is laid there, drained, shed and ended. No program in sight.
-/
namespace Go.Proofs.YtljdbaddockfcaaGreat.Pk
open Go.RowKit
set_option linter.unusedVariables false
set_option linter.unusedSimpArgs false

section
variable {D D' : Wd} {r : Int} {t s : Th} {g : Th → Th}
theorem find_upd {g : Th → Th} (hg : ∀ t, (g t).ended = t.ended ∧ (g t).h = t.h) (q : Int) : (D.upd r g).find q = (D.find q).map (fun t => if t.at r then g t else t) := updL_find hg q D.ts
theorem find_at_r (hf : D.find r = some t) : t.at r = true := by
  obtain ⟨h1, h2, h3⟩ := find_at hf
  unfold Th.at
  simp [h2, h3]
theorem updL_heads : ∀ {l : List Th}, findL r l = some t → (g t).ended = false → (g t).h = t.h → (liveL (updL r g l)).map Th.h = (liveL l).map Th.h
  | [], h, _, _ => by simp [findL] at h
  | u :: l, h, he, hh => by
    unfold findL at h
    unfold updL
    cases hu : u.at r with
    | true =>
      rw [hu] at h
      simp at h
      subst h
      have hue : u.ended = false := by unfold Th.at at hu; simp at hu; exact hu.1
      rw [if_pos rfl, live_cons, live_cons, he, hue]
      simp [hh]
    | false =>
      rw [hu] at h
      simp at h
      rw [if_neg (by simp), live_cons, live_cons]
      cases hue : u.ended with
      | true => simp; exact updL_heads h he hh
      | false => simp; exact updL_heads h he hh
theorem San.findIt (S : San D) (ht : t ∈ D.live) : D.find ((t.h : Int) + 1) = some t := by
  have hn := S.nd
  unfold Wd.live at hn ht
  unfold Wd.find
  revert ht hn
  induction D.ts with
  | nil => intro ht hn; simp [liveL] at ht
  | cons u l ih =>
    intro ht hn
    unfold findL
    rw [live_cons] at hn ht
    cases hue : u.ended with
    | true =>
      rw [hue] at hn ht
      have : u.at ((t.h : Int) + 1) = false := by unfold Th.at; simp [hue]
      simp [this]
      exact ih (by simpa using ht) (by simpa using hn)
    | false =>
      rw [hue] at hn ht
      simp at hn ht
      rcases ht with rfl | ht
      · have : t.at ((t.h : Int) + 1) = true := by unfold Th.at; simp [hue]
        simp [this]
      · have : u.at ((t.h : Int) + 1) = false := by
          unfold Th.at
          simp [hue]
          intro e
          exact hn.1 t ht (by omega)
        simp [this]
        exact ih ht hn.2
theorem San.same (S : San D) (hu : t ∈ D.live) (hv : s ∈ D.live) (e : t.h = s.h) : t = s := by
  have h1 := S.findIt hu
  have h2 := S.findIt hv
  rw [e, h2] at h1
  exact (Option.some.inj h1).symm
theorem live_of_heads (h : D'.live.map Th.h = D.live.map Th.h) (hs : s ∈ D.live) : ∃ s', s' ∈ D'.live ∧ s'.h = s.h := by
  have : s.h ∈ D'.live.map Th.h := by rw [h]; exact List.mem_map.2 ⟨s, hs, rfl⟩
  obtain ⟨s', h1, h2⟩ := List.mem_map.1 this
  exact ⟨s', h1, h2⟩
/-- One object is another one, as alive or dead as it was. -/
theorem San.upd (S : San D) (hf : D.find r = some t) (he : (g t).ended = false) (hh : (g t).h = t.h) (hts : D'.ts = updL r g D.ts) (hw : D'.w = D.w) (hgr : D'.grave = D.grave) (hok : OkT D.w D.grave (g t))
    (hring : ∀ b, b ∈ D'.ring → b ∈ D.ring ∨ (b = t.h ∧ (g t).mr.dead = false)) (hp : D'.pending + (pendT t : Int) = D.pending + (pendT (g t) : Int)) : San D' := by
  have hheads : D'.live.map Th.h = D.live.map Th.h := by unfold Wd.live; rw [hts]; exact updL_heads hf he hh
  have hmem : ∀ s, s ∈ D'.live → s = g t ∨ (s ∈ D.live ∧ s.h ≠ t.h) := fun s hs => by
    unfold Wd.live at hs
    rw [hts] at hs
    exact updL_mem S.nd hf hs
  have htl := (find_live hf).1
  have hsum := sumL_upd (φ := pendT) (g := g) hf he
  refine ⟨by rw [hw]; exact S.w, by rw [hheads]; exact S.nd, by rw [hgr]; exact S.gd, fun q hq => ?_, fun s hs => ?_, fun s hs hr => ?_, ?_⟩
  · obtain ⟨u, hu, e⟩ := S.gv q (hgr ▸ hq)
    obtain ⟨u', h1, h2⟩ := live_of_heads hheads hu
    exact ⟨u', h1, by omega⟩
  · rw [hw, hgr]
    rcases hmem s hs with rfl | ⟨h, _⟩
    · exact hok
    · exact S.ok s h
  · rcases hmem s hs with rfl | ⟨h, hne⟩
    · rcases hring _ hr with h1 | ⟨_, h1⟩
      · have hd := S.ring t htl (by rw [← hh]; exact h1)
        have hi := (S.ok t htl).iff_
        have hi2 := hok.iff_
        rw [hh] at hi2
        cases hx : (g t).mr.dead with
        | false => rfl
        | true => rw [hi.2 (hi2.1 hx)] at hd; cases hd
      · exact h1
    · rcases hring _ hr with h1 | ⟨h1, _⟩
      · exact S.ring s h h1
      · exact absurd h1 hne
  · have := S.pend
    rw [hts]
    omega
/-- A mark is set that says nothing of death. -/
theorem San.mark (S : San D) (r : Int) {f : Mrk → Mrk} (h1 : ∀ m, (f m).dead = m.dead) (h2 : ∀ m, (f m).left = m.left) (h3 : ∀ m, (f m).leaves = m.leaves) : San (D.mark r f) := by
  cases hf : D.find r with
  | none => rw [mark_none f hf]; exact S
  | some t =>
    have hk := S.ok t (find_live hf).1
    have hpe : pendT { t with mr := f t.mr } = pendT t := by unfold pendT; rw [h1, h3]
    refine S.upd (g := fun t => { t with mr := f t.mr }) hf (find_at hf).2.1 rfl rfl rfl rfl ⟨⟨hk.geo.small, hk.geo.big⟩, by show (f t.mr).dead = true ↔ _; rw [h1]; exact hk.iff_, fun hd => ?_, fun hd => ?_⟩ (fun b hb => .inl hb) (by show D.pending + _ = _; rw [hpe])
    · have k := hk.dead (by rw [← h1]; exact hd)
      refine ⟨?_, ?_, ?_, ?_, ?_, ?_, ?_, ?_⟩
      · show 0 ≤ (f t.mr).leaves; rw [h3]; exact k.l0
      · show (f t.mr).leaves ≤ _; rw [h3]; exact k.l1
      · show 0 ≤ (f t.mr).left; rw [h2]; exact k.f0
      · show (f t.mr).left ≤ _; rw [h2]; exact k.f1
      · show _ → (f t.mr).left ≤ (f t.mr).leaves * _; rw [h2, h3]; exact k.fl
      · show ∀ j : Nat, (j : Int) < (f t.mr).leaves → _; rw [h3]; exact k.there
      · show ∀ j : Nat, (f t.mr).leaves ≤ (j : Int) → _; rw [h3]; exact k.gone
      · show ∀ i : Nat, (f t.mr).left ≤ (i : Int) → _; rw [h2]; exact k.zero
    · exact hk.alive (by rw [← h1]; exact hd)
theorem San.same_but (S : San D) (hts : D'.ts = D.ts) (hw : D'.w = D.w) (hgr : D'.grave = D.grave) (hpe : D'.pending = D.pending) (hring : ∀ b, b ∈ D'.ring → b ∈ D.ring ∨ ∀ t, t ∈ D.live → t.h = b → t.mr.dead = false) : San D' := by
  have hl : D'.live = D.live := by unfold Wd.live; rw [hts]
  refine ⟨by rw [hw]; exact S.w, by rw [hl]; exact S.nd, by rw [hgr]; exact S.gd, by rw [hgr, hl]; exact S.gv, by rw [hgr, hl, hw]; exact S.ok, fun t ht hr => ?_, by rw [hts, hpe]; exact S.pend⟩
  rw [hl] at ht
  rcases hring _ hr with h | h
  · exact S.ring t ht h
  · exact h t ht rfl
theorem San.setP (S : San D) (hf : D.find r = some t) (i : Nat) {x : Int} (hx : t.mr.dead = true → x = 0) : San (D.setP r i x) := by
  have hk := S.ok t (find_live hf).1
  refine S.upd (g := fun t => { t with pt := t.pt.set i x }) hf (find_at hf).2.1 rfl rfl rfl rfl ⟨⟨by simpa using hk.geo.small, by simpa using hk.geo.big⟩, hk.iff_, fun hd => ?_, hk.alive⟩ (fun b hb => .inl hb) rfl
  have k := hk.dead hd
  refine ⟨k.l0, k.l1, k.f0, by simpa using k.f1, k.fl, k.there, k.gone, fun j hj => ?_⟩
  show nth (t.pt.set i x) j = 0
  by_cases e : i = j
  · subst e
    by_cases hlt : i < t.pt.length
    · rw [nth_set_eq hlt]; exact hx hd
    · rw [nth_out (by simp; omega)]
  · rw [nth_set_ne e]; exact k.zero j hj
theorem San.lighten (S : San D) (x : Int) : San (D.lighten x) := by
  unfold Wd.lighten
  split
  · exact S.mark x (fun _ => rfl) (fun _ => rfl) (fun _ => rfl)
  · exact S
theorem San.down (S : San D) (x : Int) : San (D.down x) := S.mark x (fun _ => rfl) (fun _ => rfl) (fun _ => rfl)
theorem San.up (S : San D) (x : Int) : San (D.up x) := S.mark x (fun _ => rfl) (fun _ => rfl) (fun _ => rfl)
/-! ### Laid into the grave -/
/-- What an object is, when it lies in the grave. -/
def laidT (t : Th) : Th := { t with mr := { t.mr with dead := true, left := (t.pt.length : Int), leaves := (t.lv.length : Int) } }
theorem lay_ts (r : Int) (t : Th) : (D.lay r t).ts = updL r (fun s => { s with mr := { s.mr with dead := true, left := (t.pt.length : Int), leaves := (t.lv.length : Int) } }) D.ts := by
  have h1 := mark_mark ({ (D.kill r).lessRing t.h with scan := if D.scan = r then 0 else D.scan } : Wd) r (fun m => { m with left := (t.pt.length : Int) }) (fun m => { m with leaves := (t.lv.length : Int) })
  have h2 := mark_mark D r (fun m => { m with dead := true }) (fun m => { m with left := (t.pt.length : Int), leaves := (t.lv.length : Int) })
  show ((({ (D.kill r).lessRing t.h with scan := if D.scan = r then 0 else D.scan } : Wd).mark r (fun m => { m with left := (t.pt.length : Int) })).mark r (fun m => { m with leaves := (t.lv.length : Int) })).ts = _
  rw [h1]
  show ((D.kill r).mark r (fun m => { m with left := (t.pt.length : Int), leaves := (t.lv.length : Int) })).ts = _
  unfold Wd.kill
  rw [h2]
  rfl
theorem San.lay (S : San D) (hf : D.find r = some t) (hd : t.mr.dead = false) : San (D.lay r t) := by
  obtain ⟨htl, hr⟩ := find_live hf
  have hk := S.ok t htl
  have hts := lay_ts (D := D) r t
  have he : (laidT t).ended = false := (find_at hf).2.1
  have hheads : (D.lay r t).live.map Th.h = D.live.map Th.h := by unfold Wd.live; rw [hts]; exact updL_heads (g := fun s => { s with mr := { s.mr with dead := true, left := (t.pt.length : Int), leaves := (t.lv.length : Int) } }) hf he rfl
  have hmem : ∀ s, s ∈ (D.lay r t).live → s = laidT t ∨ (s ∈ D.live ∧ s.h ≠ t.h) := fun s hs => by
    unfold Wd.live at hs
    rw [hts] at hs
    have := updL_mem (g := fun s => { s with mr := { s.mr with dead := true, left := (t.pt.length : Int), leaves := (t.lv.length : Int) } }) S.nd hf hs
    exact this
  have hsum := sumL_upd (φ := pendT) (g := fun s => { s with mr := { s.mr with dead := true, left := (t.pt.length : Int), leaves := (t.lv.length : Int) } }) hf he
  have hng : t.h + 1 ∉ D.grave := fun h => by rw [hk.iff_.2 h] at hd; cases hd
  have hp0 : pendT t = 0 := by unfold pendT; rw [hd]; rfl
  have hp1 : pendT (laidT t) = 1 + t.lv.length := by unfold pendT laidT; simp
  refine ⟨S.w, by rw [hheads]; exact S.nd, ?_, fun q hq => ?_, fun s hs => ?_, fun s hs hb => ?_, ?_⟩
  · show (D.grave ++ [t.h + 1]).Nodup
    rw [List.nodup_append]
    exact ⟨S.gd, by simp, fun x hx y hy => by simp at hy; subst hy; exact fun e => hng (e ▸ hx)⟩
  · rcases List.mem_append.1 (show q ∈ D.grave ++ [t.h + 1] from hq) with hq | hq
    · obtain ⟨u, hu, e⟩ := S.gv q hq
      obtain ⟨u', h1, h2⟩ := live_of_heads hheads hu
      exact ⟨u', h1, by omega⟩
    · obtain ⟨u', h1, h2⟩ := live_of_heads hheads htl
      exact ⟨u', h1, by have := List.mem_singleton.1 hq; omega⟩
  · show OkT D.w (D.grave ++ [t.h + 1]) s
    rcases hmem s hs with rfl | ⟨h, hne⟩
    · have ha := hk.alive hd
      refine ⟨⟨hk.geo.small, hk.geo.big⟩, ⟨fun _ => by show t.h + 1 ∈ _; simp, fun _ => rfl⟩, fun _ => ⟨?_, ?_, ?_, ?_, fun hl => ?_, fun j hj => ?_, fun j hj hj2 => ?_, fun i hi => ?_⟩, fun h => by cases h⟩
      · show (0 : Int) ≤ (t.lv.length : Int); omega
      · show (t.lv.length : Int) ≤ (t.lv.length : Int); omega
      · show (0 : Int) ≤ (t.pt.length : Int); omega
      · show (t.pt.length : Int) ≤ (t.pt.length : Int); omega
      · show (t.pt.length : Int) ≤ (t.lv.length : Int) * ((D.w : Int) - 1)
        have hb : ¬ t.pt.length + t.dt.length ≤ D.w - 8 := fun h => hl (hk.geo.small h)
        have h2 := (hk.geo.big hb).2
        have hw := S.w
        have e : (((t.lv.length * (D.w - 1) : Nat)) : Int) = (t.lv.length : Int) * ((D.w : Int) - 1) := by rw [Int.natCast_mul]; congr 1; omega
        omega
      · have hj' : (j : Int) < (t.lv.length : Int) := hj
        exact ha j (by omega)
      · have hj' : (t.lv.length : Int) ≤ (j : Int) := hj
        exact absurd hj2 (by show ¬ j < t.lv.length; omega)
      · have hi' : (t.pt.length : Int) ≤ (i : Int) := hi
        show nth t.pt i = 0
        exact nth_out (by omega)
    · have k := S.ok s h
      refine ⟨k.geo, ⟨fun hd' => List.mem_append_left _ (k.iff_.1 hd'), fun hg => ?_⟩, k.dead, k.alive⟩
      rcases List.mem_append.1 hg with h1 | h1
      · exact k.iff_.2 h1
      · exact absurd (by have := List.mem_singleton.1 h1; omega) hne
  · have hb' : s.h ∈ D.ring.filter (fun b => b != t.h) := hb
    have := List.mem_filter.1 hb'
    rcases hmem s hs with rfl | ⟨h, hne⟩
    · have h2 : (laidT t).h ≠ t.h := by simpa using this.2
      exact absurd rfl h2
    · exact S.ring s h this.1
  · show D.pending + (1 + (t.lv.length : Int)) = _
    have := S.pend
    rw [hts]
    have e : sumL pendT (updL r (fun s => { s with mr := { s.mr with dead := true, left := (t.pt.length : Int), leaves := (t.lv.length : Int) } }) D.ts) + pendT t = sumL pendT D.ts + pendT (laidT t) := hsum
    omega
theorem San.bury (S : San D) (x : Int) : San (D.bury x) := by
  unfold Wd.bury
  cases hf : D.find x with
  | none => exact S
  | some t =>
    simp only
    cases hd : t.mr.dead with
    | true => simpa using S
    | false => simpa using S.lay hf hd
theorem San.inter (S : San D) (x : Int) : San (D.inter x) := by
  unfold Wd.inter
  split
  · exact S.bury x
  · exact S
theorem San.drain (S : San D) (hf : D.find r = some t) (i : Nat) (x : Int) : San (D.drain r i x) := by
  have S1 := S.setP hf i (x := 0) (fun _ => rfl)
  have key : ∀ D2 : Wd, San D2 → San (if (D2.down x).cnt x = 0 then (D2.down x).bury x else D2.down x) := fun D2 S2 => by
    split
    · exact (S2.down x).bury x
    · exact S2.down x
  unfold Wd.drain
  by_cases hc : (D.setP r i 0).cnt x = 0
  · rw [if_pos hc]; exact S1
  · rw [if_neg hc]
    refine key _ ?_
    split
    · exact S1.lighten x
    · exact S1
end
end Go.Proofs.YtljdbaddockfcaaGreat.Pk

/-
  Package grave over a world: Bury, drain, a step; each as a function of the world that the words stand for.
-/
namespace Go.Proofs.YtljdbaddockfcaaGreat.Pk
open Go.RowKit
set_option linter.unusedVariables false
set_option linter.unusedSimpArgs false
set_option maxRecDepth 100000

section
variable {c : Cf} {D D' : Wd} {zs zs' : List Int} {t : Th} {r : Int}
theorem kill_dead (hf : D.find r = some t) (hd : t.mr.dead = true) : D.kill r = D := by
  obtain ⟨i, hi, ht⟩ := find_some hf
  unfold Wd.kill Wd.mark Wd.upd
  rw [upd_ix hi ht, show ({ t with mr := { t.mr with dead := true } } : Th) = t by rw [← hd], set_self_get ht]
theorem RepW.sizes (R : RepW c zs D) (hz : Wz c zs) (htl : t ∈ D.live) : t.pt.length + t.dt.length ≤ 100000 ∧ t.lv.length ≤ 248 := by
  obtain ⟨p, w, hG⟩ := G_exists hz
  have h1 := ob_small (s := ⟨zs, 0⟩) hG R.heap (R.obMem htl)
  have h2 := (R.heap.obs t.ob (R.obMem htl)).lvW hz.may
  have hw := hz.may.w
  have e : t.ob.lv.length = t.lv.length := by unfold Th.ob; simp
  have e1 : t.ob.np = t.pt.length := rfl
  have e2 : t.ob.nd = t.dt.length := rfl
  omega
theorem gd_cut (hz : Wz c zs) (R : RepW c zs D) (hf : D.find r = some t) : ∃ zs' d b, d ≤ 10 ∧ Run c 113 [.int .i64 (t.h : Int)] zs d zs' (.bool b) ∧ RepW c zs' (D.lessRing t.h) := by
  obtain ⟨h1, h2, h3, h4, h5⟩ := R.tagOf hf
  by_cases hin : t.h ∈ D.ring
  · exact ⟨_, 10, true, by omega, fun p m w hG => rg_cut_yes p c ⟨zs, m⟩ t.h D.ring w hG R.ring hin, tf_ringCut R hz hf hin⟩
  · have hlt := R.hlt (find_live hf).1
    have e : D.lessRing t.h = D := by
      unfold Wd.lessRing
      rw [List.filter_eq_self.2 (fun x hx => by simp; exact fun e => hin (e ▸ hx))]
    refine ⟨zs, _, false, ?_, fun p m w hG => rg_cut_no p c ⟨zs, m⟩ (t.h : Int) (nth zs (adr c t.h 0)) w hG (tagI_in hz.may hlt) (.inr ⟨headT_yes h2, decide_eq_false (fun h => ?_)⟩), by rw [e]; exact R⟩
    · have := ask_le1 (wordA c (t.h : Int) 0); omega
    · rw [R.ring.mk0 hlt hin] at h
      exact absurd h (by decide)
theorem gd_of (hz : Wz c zs) (R : RepW c zs D) (hr : In64 r) : ∃ d, d ≤ 2 ∧ Run c 15 [.int .i64 r] zs d zs (.int .i64 (D.cnt r)) := by
  cases hf : D.find r with
  | none =>
    rw [show D.cnt r = 0 by unfold Wd.cnt; rw [hf]]
    exact ⟨_, by have := ask_le1 (wordA c (prev r) 0); omega, fun p m w hG => ct_of_no (s := ⟨zs, m⟩) hG R.heap hr (tf_none R hf)⟩
  | some t =>
    obtain ⟨htl, rfl⟩ := find_live hf
    rw [show D.cnt ((t.h : Int) + 1) = t.mr.refs by unfold Wd.cnt; rw [hf], ← (R.own t htl).w3]
    exact ⟨2, by omega, fun p m w hG => ct_of_yes (s := ⟨zs, m⟩) (o := t.ob) hG R.heap (R.obMem htl)⟩
theorem RepW.refs0 (R : RepW c zs D) (hz : Wz c zs) (htl : t ∈ D.live) : 0 ≤ t.mr.refs ∧ t.mr.refs ≤ 4294967295 := by
  rw [← (R.own t htl).w3]
  exact hz.wf _
theorem gd_down (hz : Wz c zs) (R : RepW c zs D) (hf : D.find r = some t) (h0 : t.mr.refs ≠ 0) : ∃ zs', Run c 154 [.int .i64 r] zs 3 zs' (.tuple #[.int .i64 (t.mr.refs - 1), .bool true]) ∧ RepW c zs' (D.down r) := by
  obtain ⟨htl, rfl⟩ := find_live hf
  have hb := R.refs0 hz htl
  have e3 := (R.own t htl).w3
  refine ⟨zs.set (adr c t.h 3) (t.mr.refs - 1), fun p m w hG => ct_down (ct_change_yes (s := ⟨zs, m⟩) (o := t.ob) (-1) (t.mr.refs - 1) hG R.heap (R.obMem htl) (by omega) (by omega) (by show nth zs (adr c t.h 3) + -1 = _; rw [e3]; omega) (by omega) (by omega)) ⟨_, _, rfl⟩, ?_⟩
  exact R.setOwn hz.may hz.len hf (v := 3) (.inl rfl) (x := t.mr.refs - 1) (f := fun m => { m with refs := m.refs - 1 }) rfl
/-! ### Laid into the grave -/
theorem bury_tail (hz : Wz c zs) (R : RepW c zs D) (hf : D.find r = some t) (hd : t.mr.dead = true) (hn : t.h ∉ D.ring) (hg : t.h + 1 ∉ D.grave) :
    Run c 114 [.int .i64 ((t.h : Int) + 1)] zs 3 zs (.tuple #[.int .i64 (t.pt.length : Int), .int .i64 (t.dt.length : Int), .int .i64 0]) ∧ Run c 18 [.int .i64 ((t.h : Int) + 1)] zs 3 zs (.int .i64 (1 + (t.lv.length : Int))) ∧
    Run c 115 [.int .i64 1, .int .i64 (t.h : Int)] ((zs.set (adr c t.h 6) (t.pt.length : Int)).set (adr c t.h 7) (t.lv.length : Int)) 6 (addZ c 1 t.h ((zs.set (adr c t.h 6) (t.pt.length : Int)).set (adr c t.h 7) (t.lv.length : Int))) (.bool true) ∧
    nth (addZ c 1 t.h ((zs.set (adr c t.h 6) (t.pt.length : Int)).set (adr c t.h 7) (t.lv.length : Int))) 6 = D.pending ∧
    RepW c ((addZ c 1 t.h ((zs.set (adr c t.h 6) (t.pt.length : Int)).set (adr c t.h 7) (t.lv.length : Int))).set 6 (D.pending + (1 + (t.lv.length : Int)))) { (D.mark r (fun m => { m with left := (t.pt.length : Int) })).mark r (fun m => { m with leaves := (t.lv.length : Int) }) with grave := D.grave ++ [t.h + 1], pending := D.pending + (1 + (t.lv.length : Int)) } := by
  have hm := hz.may
  have hw := hm.w
  obtain ⟨htl, hr⟩ := find_live hf
  have hlt := R.hlt htl
  have hs := R.sizes hz htl
  have elv : t.ob.lv.length = t.lv.length := by unfold Th.ob; simp
  have R1 : RepW c (zs.set (adr c t.h 6) (t.pt.length : Int)) (D.mark r (fun m => { m with left := (t.pt.length : Int) })) := R.setLf hm hz.len hf (v := 6) (.inl rfl) (by rw [if_pos rfl]) hn
  have hz1 : Wz c (zs.set (adr c t.h 6) (t.pt.length : Int)) := hz.set _ (by omega) (by omega)
  have hf1 := mark_find (fun m => { m with left := (t.pt.length : Int) }) hf
  have R2 : RepW c ((zs.set (adr c t.h 6) (t.pt.length : Int)).set (adr c t.h 7) (t.lv.length : Int)) ((D.mark r (fun m => { m with left := (t.pt.length : Int) })).mark r (fun m => { m with leaves := (t.lv.length : Int) })) := R1.setLf hm hz1.len hf1 (v := 7) (.inr rfl) (by rw [if_neg (by decide)]) hn
  have hz2 : Wz c ((zs.set (adr c t.h 6) (t.pt.length : Int)).set (adr c t.h 7) (t.lv.length : Int)) := hz1.set _ (by omega) (by omega)
  have hf2 := mark_find (fun m => { m with leaves := (t.lv.length : Int) }) hf1
  have h67 : adr c t.h 6 ≠ adr c t.h 7 := fun e => by have := (adr_inj (c := c) (by omega) (by omega) e).2; omega
  have h6 : nth ((zs.set (adr c t.h 6) (t.pt.length : Int)).set (adr c t.h 7) (t.lv.length : Int)) (adr c t.h 6) = (t.pt.length : Int) := by
    rw [nth_set_ne (Ne.symm h67), nth_set_eq (by rw [hz.len]; exact adr_lt hlt (by omega))]
  have h7 : nth ((zs.set (adr c t.h 6) (t.pt.length : Int)).set (adr c t.h 7) (t.lv.length : Int)) (adr c t.h 7) = (t.lv.length : Int) := nth_set_eq (by simp; rw [hz.len]; exact adr_lt hlt (by omega)) _
  have R3 := R2.graveAdd hm hz2.len hf2 hd h6 h7 hn hg
  have R4 := R3.setPend hm (by rw [addZ_length]; exact hz2.len) (D.pending + (1 + (t.lv.length : Int)))
  refine ⟨fun p m w hG => ob_lens_yes (s := ⟨zs, m⟩) (o := t.ob) hG R.heap (R.obMem htl), fun p m w hG => ?_, fun p m w hG => ?_, R3.r6, R4⟩
  · have := ob_blocks_yes (s := ⟨zs, m⟩) (o := t.ob) hG R.heap (R.obMem htl)
    rw [elv] at this
    exact this
  · exact cxAdd_yes p c ⟨_, m⟩ 1 t.h (D.grave.map (· - 1)) w hG R2.grave (by omega) hlt (fun h => by
      obtain ⟨q, hq, e⟩ := List.mem_map.1 h
      obtain ⟨u, hu, e2⟩ := R.gv q hq
      have : t.h + 1 = q := by omega
      exact hg (this ▸ hq))
theorem gd_bury (hr : In64 r) (hp0 : 0 ≤ D.pending) (hp1 : D.pending ≤ 4294900000) : Does c D 58 [.int .i64 r] 40 (D.bury r) (.bool (D.buryB r)) := fun zs hz R => by
  obtain ⟨zs1, ⟨d1, hd1, C1⟩, R1, hz1⟩ := (tf_does_kill c D r hr).at hz R
  cases hf : D.find r with
  | none =>
    rw [show ((D.find r).isSome && !D.dead r) = false by rw [hf]; rfl] at C1
    rw [show D.kill r = D from mark_none _ hf] at R1
    rw [show D.buryB r = false by unfold Wd.buryB; rw [hf], show D.bury r = D by unfold Wd.bury; rw [hf]]
    exact ⟨zs1, ⟨d1, by omega, gw_bury_no C1⟩, R1⟩
  | some t =>
    have ed : D.dead r = t.mr.dead := by unfold Wd.dead; rw [hf]
    cases hd : t.mr.dead with
    | true =>
      rw [show ((D.find r).isSome && !D.dead r) = false by rw [hf, ed, hd]; rfl] at C1
      rw [kill_dead hf hd] at R1
      rw [show D.buryB r = false by unfold Wd.buryB; rw [hf]; simp [hd], show D.bury r = D by unfold Wd.bury; rw [hf]; simp [hd]]
      exact ⟨zs1, ⟨d1, by omega, gw_bury_no C1⟩, R1⟩
    | false =>
      rw [show ((D.find r).isSome && !D.dead r) = true by rw [hf, ed, hd]; rfl] at C1
      rw [show D.buryB r = true by unfold Wd.buryB; rw [hf]; simp [hd], show D.bury r = D.lay r t by unfold Wd.bury; rw [hf]; simp [hd]]
      obtain ⟨htl, hrr⟩ := find_live hf
      have hlt := R.hlt htl
      have hs := R.sizes hz htl
      have hs1 : t.pt.length ≤ 100000 := by omega
      have hs2 : t.lv.length ≤ 1000 := by omega
      have hf1 : (D.kill r).find r = some { t with mr := { t.mr with dead := true } } := mark_find _ hf
      obtain ⟨zs2, d2, b2, hd2, C2, R2⟩ := gd_cut hz1 R1 hf1
      have hz2 : Wz c zs2 := Acts.wz hz1 ⟨d2, Nat.le_refl _, C2⟩
      have hng : t.h + 1 ∉ D.grave := fun hg => by
        have := (R.bur t htl hg).1
        rw [hd] at this
        cases this
      have hnr : t.h ∉ D.ring.filter (fun b => b != t.h) := fun h => by
        have := (List.mem_filter.1 h).2
        simp at this
      have h14 : nth zs2 14 = D.scan := R2.reg 14 (by omega) (by omega)
      subst hrr
      by_cases hx : D.scan = (t.h : Int) + 1
      · have R3 : RepW c (zs2.set 14 0) { (D.kill ((t.h : Int) + 1)).lessRing t.h with scan := 0 } := by
          refine R2.setReg hz2.may hz2.len (k := 14) (by omega) (by omega) rfl rfl rfl rfl rfl rfl rfl rfl (fun j h1 h2 h3 => ?_) R.par
          have : j = 10 ∨ j = 11 ∨ j = 12 ∨ j = 13 ∨ j = 15 ∨ j = 16 ∨ j = 17 ∨ j = 18 := by omega
          rcases this with rfl | rfl | rfl | rfl | rfl | rfl | rfl | rfl <;> rfl
        have hz3 : Wz c (zs2.set 14 0) := hz2.set _ (by omega) (by omega)
        obtain ⟨C3, C4, C5, h6, R4⟩ := bury_tail hz3 R3 (t := { t with mr := { t.mr with dead := true } }) hf1 rfl hnr hng
        refine ⟨_, ⟨_, ?_, gw_bury_scan hz.may hlt C1 C2 (h14.trans hx) C3 C4 hs1 hs2 C5 h6 hp0 hp1⟩, ?_⟩
        · omega
        · have e : D.lay ((t.h : Int) + 1) t = { (({ (D.kill ((t.h : Int) + 1)).lessRing t.h with scan := 0 } : Wd).mark ((t.h : Int) + 1) (fun m => { m with left := (t.pt.length : Int) })).mark ((t.h : Int) + 1) (fun m => { m with leaves := (t.lv.length : Int) }) with grave := D.grave ++ [t.h + 1], pending := D.pending + (1 + (t.lv.length : Int)) } := by
            unfold Wd.lay
            rw [if_pos hx]
          rw [e]
          exact R4
      · have e0 : ({ (D.kill ((t.h : Int) + 1)).lessRing t.h with scan := D.scan } : Wd) = (D.kill ((t.h : Int) + 1)).lessRing t.h := rfl
        obtain ⟨C3, C4, C5, h6, R4⟩ := bury_tail hz2 R2 (t := { t with mr := { t.mr with dead := true } }) hf1 rfl hnr hng
        refine ⟨_, ⟨_, ?_, gw_bury_free hz.may hlt C1 C2 h14 hx C3 C4 hs1 hs2 C5 h6 hp0 hp1⟩, ?_⟩
        · omega
        · have e : D.lay ((t.h : Int) + 1) t = { (((D.kill ((t.h : Int) + 1)).lessRing t.h).mark ((t.h : Int) + 1) (fun m => { m with left := (t.pt.length : Int) })).mark ((t.h : Int) + 1) (fun m => { m with leaves := (t.lv.length : Int) }) with grave := D.grave ++ [t.h + 1], pending := D.pending + (1 + (t.lv.length : Int)) } := by
            unfold Wd.lay
            rw [if_neg hx]
            rfl
          rw [e]
          exact R4
theorem gd_inter (hr : In64 r) (hp0 : 0 ≤ D.pending) (hp1 : D.pending ≤ 4294900000) : Does c D 11 [.int .i64 r] 42 (D.inter r) (.bool (D.interB r)) := fun zs hz R => by
  obtain ⟨d1, hd1, C1⟩ := gd_of hz R hr
  unfold Wd.inter Wd.interB
  by_cases h0 : D.cnt r = 0
  · rw [h0] at C1
    obtain ⟨zs2, ⟨d2, hd2, C2⟩, R2⟩ := gd_bury (c := c) hr hp0 hp1 zs hz R
    rw [if_pos h0, decide_eq_true h0, Bool.true_and]
    exact ⟨zs2, ⟨d1 + d2, by omega, gw_Bury C1 C2⟩, R2⟩
  · rw [if_neg h0, decide_eq_false h0, Bool.false_and]
    exact ⟨zs, ⟨d1, by omega, gw_Bury_named h0 C1⟩, R⟩
/-! ### Drained -/
theorem setP_find {i : Nat} {x : Int} (q : Int) : (D.setP r i x).find q = (D.find q).map (fun t => if t.at r then { t with pt := t.pt.set i x } else t) := find_upd (g := fun t => { t with pt := t.pt.set i x }) (fun t => ⟨rfl, rfl⟩) q
theorem lighten_find (q : Int) : ∀ t, D.find q = some t → ∃ f : Mrk → Mrk, (D.lighten r).find q = some { t with mr := f t.mr } ∧ (f t.mr).refs = t.mr.refs ∧ (f t.mr).dead = t.mr.dead ∧ (f t.mr).left = t.mr.left ∧ (f t.mr).leaves = t.mr.leaves := fun t hf => by
  unfold Wd.lighten
  split
  · rw [find_mark, hf]
    by_cases e : t.at r = true
    · exact ⟨fun m => { m with shadow := m.shadow - 1 }, by simp [e], rfl, rfl, rfl, rfl⟩
    · exact ⟨id, by simp [e], rfl, rfl, rfl, rfl⟩
  · exact ⟨id, by simpa using hf, rfl, rfl, rfl, rfl⟩
theorem lighten_rest (x : Int) : (D.lighten x).pending = D.pending ∧ (D.lighten x).grave = D.grave ∧ (D.lighten x).ring = D.ring ∧ (D.lighten x).scan = D.scan ∧ (D.lighten x).clean = D.clean ∧ (D.lighten x).n = D.n ∧ (D.lighten x).w = D.w := by
  unfold Wd.lighten
  split <;> exact ⟨rfl, rfl, rfl, rfl, rfl, rfl, rfl⟩
theorem ptr_run (hz : Wz c zs) (R : RepW c zs D) (hr : In64 r) (hf : D.find r = some t) {i a : Nat} (hi : i < t.pt.length) (ha : fieldA c t.ob i = some a) : (∃ d, d ≤ 12 ∧ Run c 55 [.int .i64 r, .int .i64 (i : Int)] zs d zs (.tuple #[.int .i64 (nth t.pt i), .int .i64 0])) ∧ 0 ≤ nth t.pt i ∧ nth t.pt i ≤ 4294967295 := by
  obtain ⟨htl, _⟩ := find_live hf
  have hob := obAt_find R r
  rw [hf] at hob
  have hv := R.fld t htl i a (by unfold Th.ob Ob.f; simp; omega) ha
  have hfl : t.fld i = nth t.pt i := by unfold Th.fld; rw [if_pos hi]
  have e1 : ptrV c zs D.obs r (i : Int) = nth t.pt i := by
    unfold ptrV
    rw [hob]
    show (if bel (i : Int) t.ob.np then fldV c zs t.ob (i : Int).toNat else 0) = _
    rw [if_pos (bel_mk (show i < t.ob.np from hi)), Int.toNat_natCast]
    unfold fldV
    rw [ha, ← hfl]
    exact hv
  have e2 : ptrE c D.obs r (i : Int) = 0 := by
    unfold ptrE
    rw [hob]
    show (if bel (i : Int) t.ob.np && (fieldA c t.ob (i : Int).toNat).isSome then (0 : Int) else 7) = 0
    rw [bel_mk (show i < t.ob.np from hi), Int.toNat_natCast, ha]
    rfl
  obtain ⟨d, hd, C⟩ := objFns.ptr c zs D.clean D.obs r (i : Int) hz R.heap hr
  rw [e1, e2] at C
  refine ⟨⟨d, hd, C⟩, ?_⟩
  rw [← hfl, ← hv]
  exact hz.wf a
theorem setptr_run (hz : Wz c zs) (R : RepW c zs D) (hf : D.find r = some t) {i a : Nat} (hi : i < t.pt.length) (ha : fieldA c t.ob i = some a) {x : Int} (h0 : 0 ≤ x) (h1 : x ≤ (c.N : Int)) : (∃ d, d ≤ 12 ∧ Run c 56 [.int .i64 r, .int .i64 (i : Int), .int .i64 x] zs d (zs.set a x) (.int .i64 0)) ∧ RepW c (zs.set a x) (D.setP r i x) ∧ Wz c (zs.set a x) := by
  obtain ⟨htl, rfl⟩ := find_live hf
  have hn := hz.may.n
  obtain ⟨d, hd, C⟩ := objFns.setptr_yes c zs D.clean D.obs t.ob i a x hz R.heap (R.obMem htl) hi ha h0 h1
  exact ⟨⟨d, hd, C⟩, R.setPtr hz.may hz.len hf hi ha x, hz.set _ h0 (by omega)⟩
end
end Go.Proofs.YtljdbaddockfcaaGreat.Pk

/-
  A step of the grave over a world: what it does, what stays true, that it is one less.
-/
namespace Go.Proofs.YtljdbaddockfcaaGreat.Pk
open Go.RowKit
set_option linter.unusedVariables false
set_option linter.unusedSimpArgs false
set_option maxRecDepth 100000

section
variable {c : Cf} {D D' : Wd} {zs zs' : List Int} {t s : Th} {r : Int}
/-! ### Who is dead stays as it is, whoever is buried -/
theorem bury_find {q : Int} (hf : D.find q = some t) (hd : t.mr.dead = true) (x : Int) : (D.bury x).find q = some t := by
  unfold Wd.bury
  cases hx : D.find x with
  | none => exact hf
  | some u =>
    simp only
    cases hu : u.mr.dead with
    | true => simpa using hf
    | false =>
      simp only [Bool.false_eq_true, if_false]
      have hts := lay_ts (D := D) x u
      show findL q (D.lay x u).ts = some t
      rw [hts, updL_find (g := fun s => { s with mr := { s.mr with dead := true, left := (u.pt.length : Int), leaves := (u.lv.length : Int) } }) (fun t => ⟨rfl, rfl⟩)]
      have hf' : findL q D.ts = some t := hf
      rw [hf']
      have : ¬ t.at x = true := fun h => by
        have e1 := find_at hf
        have e2 := find_at hx
        unfold Th.at at h
        simp at h
        have : q = x := by omega
        subst this
        rw [hf] at hx
        cases hx
        rw [hd] at hu
        cases hu
      simp [this]
theorem bury_rest (x : Int) : (D.bury x).clean = D.clean ∧ (D.bury x).n = D.n ∧ (D.bury x).w = D.w := by
  unfold Wd.bury
  cases D.find x with
  | none => exact ⟨rfl, rfl, rfl⟩
  | some u =>
    simp only
    split
    · exact ⟨rfl, rfl, rfl⟩
    · exact ⟨rfl, rfl, rfl⟩
theorem drain_find (hf : D.find r = some t) (hd : t.mr.dead = true) (i : Nat) (x : Int) : ∃ f : Mrk → Mrk, (D.drain r i x).find r = some { t with pt := t.pt.set i 0, mr := f t.mr } ∧ (f t.mr).dead = true ∧ (f t.mr).left = t.mr.left ∧ (f t.mr).leaves = t.mr.leaves := by
  have hf1 : (D.setP r i 0).find r = some { t with pt := t.pt.set i 0 } := by rw [setP_find, hf]; simp [find_at_r hf]
  have key : ∀ D2 : Wd, ∀ u : Th, D2.find r = some u → u.mr.dead = true → ∃ f : Mrk → Mrk, (if (D2.down x).cnt x = 0 then (D2.down x).bury x else D2.down x).find r = some { u with mr := f u.mr } ∧ (f u.mr).dead = true ∧ (f u.mr).left = u.mr.left ∧ (f u.mr).leaves = u.mr.leaves := fun D2 u hu hdu => by
    have h1 : ∃ f : Mrk → Mrk, (D2.down x).find r = some { u with mr := f u.mr } ∧ (f u.mr).dead = true ∧ (f u.mr).left = u.mr.left ∧ (f u.mr).leaves = u.mr.leaves := by
      unfold Wd.down
      rw [find_mark, hu]
      by_cases e : u.at x = true
      · exact ⟨fun m => { m with refs := m.refs - 1 }, by simp [e], hdu, rfl, rfl⟩
      · exact ⟨id, by simp [e], hdu, rfl, rfl⟩
    obtain ⟨f, h1, h2, h3, h4⟩ := h1
    refine ⟨f, ?_, h2, h3, h4⟩
    split
    · exact bury_find h1 h2 x
    · exact h1
  unfold Wd.drain
  by_cases hc : (D.setP r i 0).cnt x = 0
  · rw [if_pos hc]; exact ⟨id, hf1, hd, rfl, rfl⟩
  · rw [if_neg hc]
    have h2 : ∃ f : Mrk → Mrk, (if (D.setP r i 0).counted r i then (D.setP r i 0).lighten x else D.setP r i 0).find r = some { t with pt := t.pt.set i 0, mr := f t.mr } ∧ (f t.mr).dead = true ∧ (f t.mr).left = t.mr.left ∧ (f t.mr).leaves = t.mr.leaves := by
      split
      · obtain ⟨f, h1, _, h3, h4, h5⟩ := lighten_find (D := D.setP r i 0) (r := x) r _ hf1
        exact ⟨f, h1, h3.trans hd, h4, h5⟩
      · exact ⟨id, hf1, hd, rfl, rfl⟩
    obtain ⟨f, h1, h3, h4, h5⟩ := h2
    obtain ⟨f2, k1, k3, k4, k5⟩ := key _ _ h1 h3
    exact ⟨fun m => f2 (f m), k1, k3, k4.trans h4, k5.trans h5⟩
/-! ### How many blocks there are -/
/-! ### Where the fields of a dead one lie -/
theorem DOk.field {w : Nat} (hm : c.May) (hw : c.W = w) (d : DOk w t) (g : Geo w t) {i : Nat} (hi : (i : Int) < t.mr.left) : i < t.pt.length ∧ ∃ a, fieldA c t.ob i = some a := by
  have hW := hm.w
  have h1 : i < t.pt.length := by have := d.f1; omega
  refine ⟨h1, ?_⟩
  have ef : t.ob.f = t.pt.length + t.dt.length := rfl
  by_cases hs : t.ob.f ≤ c.W - 8
  · exact ⟨_, by unfold fieldA; rw [fieldP_small hs]; rfl⟩
  · have hb := (g.big (by rw [← hw]; omega)).1
    have hl := d.fl hb
    have hq : (i / (c.W - 1) : Nat) < t.mr.leaves.toNat := by
      rw [Nat.div_lt_iff_lt_mul (by omega)]
      have e : ((t.mr.leaves.toNat * (c.W - 1) : Nat) : Int) = t.mr.leaves * ((w : Int) - 1) := by
        rw [Int.natCast_mul, Int.toNat_of_nonneg d.l0]
        congr 1
        omega
      omega
    obtain ⟨b, hb⟩ := d.there (i / (c.W - 1)) (by have := d.l0; omega)
    exact ⟨_, by unfold fieldA; rw [fieldP_big hs (lv_at hb)]; rfl⟩
/-! ### A step -/
theorem gd_Pending : Does c D 19 [] 1 D (.int .i64 D.pending) := fun zs hz R => ⟨zs, ⟨1, Nat.le_refl _, gw_Pending R.r6⟩, R⟩
end
end Go.Proofs.YtljdbaddockfcaaGreat.Pk

/-
  Steps of the grave: they leave a world as it must be, each is one less; counts stay names. No program in sight.
-/
namespace Go.Proofs.YtljdbaddockfcaaGreat.Pk
open Go.RowKit
set_option linter.unusedVariables false
set_option linter.unusedSimpArgs false
set_option maxRecDepth 100000

section
variable {D D' : Wd} {r : Int} {t s u : Th} {g : Th → Th} {φ : Th → Nat}
theorem updL_updL {f g : Th → Th} (hf : ∀ t, (f t).ended = t.ended ∧ (f t).h = t.h) : ∀ l : List Th, updL r g (updL r f l) = updL r (fun t => g (f t)) l
  | [] => rfl
  | u :: l => by
    have hat : (f u).at r = u.at r := by unfold Th.at; rw [(hf u).1, (hf u).2]
    simp only [updL]
    cases h : u.at r with
    | true => simp [updL, hat, h]
    | false => simp [updL, h, updL_updL hf l]
theorem sumL_mark (r : Int) {f : Mrk → Mrk} (h : ∀ t : Th, φ { t with mr := f t.mr } = φ t) : sumL φ (D.mark r f).ts = sumL φ D.ts := by
  cases hf : D.find r with
  | none => rw [mark_none f hf]
  | some t =>
    have := sumL_upd (φ := φ) (g := fun t => { t with mr := f t.mr }) (t := t) hf (find_at hf).2.1
    rw [h] at this
    show sumL φ (updL r (fun t => { t with mr := f t.mr }) D.ts) = _
    omega
theorem sumL_setP (hf : D.find r = some t) (i : Nat) (x : Int) : sumL φ (D.setP r i x).ts + φ t = sumL φ D.ts + φ { t with pt := t.pt.set i x } := sumL_upd (g := fun t => { t with pt := t.pt.set i x }) hf (find_at hf).2.1
theorem sumL_bury (x : Int) (h : ∀ t : Th, t.mr.dead = false → φ (laidT t) = φ t) : sumL φ (D.bury x).ts = sumL φ D.ts := by
  unfold Wd.bury
  cases hf : D.find x with
  | none => rfl
  | some t =>
    simp only
    cases hd : t.mr.dead with
    | true => simp
    | false =>
      simp only [Bool.false_eq_true, if_false]
      rw [lay_ts]
      have := sumL_upd (φ := φ) (g := fun s => { s with mr := { s.mr with dead := true, left := (t.pt.length : Int), leaves := (t.lv.length : Int) } }) (t := t) hf (find_at hf).2.1
      have e : φ ({ t with mr := { t.mr with dead := true, left := (t.pt.length : Int), leaves := (t.lv.length : Int) } }) = φ t := h t hd
      omega
theorem drain_w (i : Nat) (x : Int) : (D.drain r i x).w = D.w ∧ (D.drain r i x).n = D.n ∧ (D.drain r i x).clean = D.clean := by
  have key : ∀ D2 : Wd, (if (D2.down x).cnt x = 0 then (D2.down x).bury x else D2.down x).w = D2.w ∧ (if (D2.down x).cnt x = 0 then (D2.down x).bury x else D2.down x).n = D2.n ∧ (if (D2.down x).cnt x = 0 then (D2.down x).bury x else D2.down x).clean = D2.clean := fun D2 => by
    split
    · exact ⟨(bury_rest x).2.2, (bury_rest x).2.1, (bury_rest x).1⟩
    · exact ⟨rfl, rfl, rfl⟩
  unfold Wd.drain
  by_cases hc : (D.setP r i 0).cnt x = 0
  · rw [if_pos hc]; exact ⟨rfl, rfl, rfl⟩
  · rw [if_neg hc]
    obtain ⟨k1, k2, k3⟩ := key (if (D.setP r i 0).counted r i then (D.setP r i 0).lighten x else D.setP r i 0)
    refine ⟨k1.trans ?_, k2.trans ?_, k3.trans ?_⟩ <;> split <;> first | rfl | exact (lighten_rest (D := D.setP r i 0) x).2.2.2.2.2.2 | exact (lighten_rest (D := D.setP r i 0) x).2.2.2.2.2.1 | exact (lighten_rest (D := D.setP r i 0) x).2.2.2.2.1
theorem ahead_pos (S : San D) {l : Int} (h : 0 < l) : D.ahead l = (l - 1) * ((D.w : Int) - 1) := by unfold Wd.ahead; rw [if_pos h]
theorem ahead_zero : D.ahead 0 = 0 := by unfold Wd.ahead; rw [if_neg (by omega)]; omega
/-- The first one in the grave. -/
theorem San.head (S : San D) {q : Nat} {rest : List Nat} (hg : D.grave = q :: rest) : ∃ t, t ∈ D.live ∧ t.h + 1 = q ∧ D.find (q : Int) = some t ∧ t.mr.dead = true ∧ DOk D.w t ∧ D.step = D.work q rest t := by
  obtain ⟨t, htl, e⟩ := S.gv q (by rw [hg]; simp)
  have hf : D.find (q : Int) = some t := by have := S.findIt htl; rwa [show ((t.h : Int) + 1) = (q : Int) by omega] at this
  have hk := S.ok t htl
  have hd : t.mr.dead = true := hk.iff_.2 (by rw [e, hg]; simp)
  refine ⟨t, htl, e, hf, hd, hk.dead hd, ?_⟩
  unfold Wd.step
  rw [hg]
  simp only [hf]
theorem cut_mark (r : Int) (j b : Nat) (k : Int) : ((D.cutLeaf r j b).mark r (fun m => { m with leaves := k })).ts = updL r (fun s => { s with lv := s.lv.set j (-1), mr := { s.mr with leaves := k } }) D.ts :=
  updL_updL (f := fun t => { t with lv := t.lv.set j (-1) }) (g := fun t => { t with mr := { t.mr with leaves := k } }) (fun _ => ⟨rfl, rfl⟩) D.ts
theorem San.step (S : San D) : San D.step := by
  cases hg : D.grave with
  | nil => unfold Wd.step; rw [hg]; exact S
  | cons q rest =>
    obtain ⟨t, htl, e, hf, hd, d, es⟩ := S.head hg
    have hk := S.ok t htl
    have hw := S.w
    rw [es]
    unfold Wd.work
    by_cases ha : D.ahead t.mr.leaves < t.mr.left
    · have h0 : 0 ≤ D.ahead t.mr.leaves := by
        unfold Wd.ahead
        refine Int.mul_nonneg ?_ (by omega)
        split <;> omega
      rw [if_pos ha]
      have S1 := S.drain hf (t.mr.left - 1).toNat (nth t.pt (t.mr.left - 1).toNat)
      obtain ⟨f, hf1, k1, k2, k3⟩ := drain_find hf hd (t.mr.left - 1).toNat (nth t.pt (t.mr.left - 1).toNat)
      have hw1 := (drain_w (D := D) (r := (q : Int)) (t.mr.left - 1).toNat (nth t.pt (t.mr.left - 1).toNat)).1
      have kk := S1.ok _ (find_live hf1).1
      refine S1.upd (g := fun s => { s with mr := { s.mr with left := t.mr.left - 1 } }) hf1 (find_at hf1).2.1 rfl rfl rfl rfl ⟨⟨kk.geo.small, kk.geo.big⟩, kk.iff_, fun _ => ?_, fun h => by rw [show _ = true from k1] at h; cases h⟩ (fun b hb => .inl hb) rfl
      have dd := kk.dead k1
      refine ⟨dd.l0, dd.l1, ?_, ?_, fun hl => ?_, dd.there, dd.gone, fun i hi => ?_⟩
      · show 0 ≤ t.mr.left - 1; omega
      · show t.mr.left - 1 ≤ _
        have := dd.f1
        have e2 : (f t.mr).left = t.mr.left := k2
        have e3 : (f t.mr).left ≤ ((t.pt.set (t.mr.left - 1).toNat 0).length : Int) := this
        rw [e2] at e3
        show t.mr.left - 1 ≤ ((t.pt.set (t.mr.left - 1).toNat 0).length : Int)
        omega
      · have h1 := dd.fl hl
        have h2 : (f t.mr).left ≤ (f t.mr).leaves * (((D.drain (q : Int) (t.mr.left - 1).toNat (nth t.pt (t.mr.left - 1).toNat)).w : Int) - 1) := h1
        rw [k2] at h2
        show t.mr.left - 1 ≤ (f t.mr).leaves * _
        omega
      · have hi' : t.mr.left - 1 ≤ (i : Int) := hi
        show nth (t.pt.set (t.mr.left - 1).toNat 0) i = 0
        by_cases ei : (t.mr.left - 1).toNat = i
        · rw [ei]
          by_cases hlt : i < t.pt.length
          · rw [nth_set_eq hlt]
          · rw [nth_out (by simp; omega)]
        · rw [nth_set_ne ei]
          exact d.zero i (by omega)
    · rw [if_neg ha]
      by_cases hl : 0 < t.mr.leaves
      · rw [if_pos hl]
        have hp : pendT t = 1 + t.mr.leaves.toNat := by unfold pendT; rw [hd, if_pos rfl]
        have hlen : ((t.mr.leaves - 1).toNat : Nat) < t.lv.length := by have := d.l1; omega
        have hfl : t.mr.left ≤ (t.mr.leaves - 1) * ((D.w : Int) - 1) := by rw [← ahead_pos S hl]; omega
        refine S.upd (g := fun s => { s with lv := s.lv.set (t.mr.leaves - 1).toNat (-1), mr := { s.mr with leaves := t.mr.leaves - 1 } }) hf (find_at hf).2.1 rfl (cut_mark _ _ _ _) rfl rfl ⟨⟨fun h => ?_, fun h => ?_⟩, hk.iff_, fun _ => ⟨?_, ?_, d.f0, d.f1, fun _ => hfl, fun j hj => ?_, fun j hj hj2 => ?_, d.zero⟩, fun h => by rw [show _ = true from hd] at h; cases h⟩ (fun b hb => .inl hb) ?_
        · have := hk.geo.small h
          rw [this] at hlen
          simp at hlen
        · have := hk.geo.big h
          refine ⟨?_, by simpa using this.2⟩
          show t.lv.set (t.mr.leaves - 1).toNat (-1) ≠ []
          intro hx
          have := congrArg List.length hx
          simp at this
          rw [this] at hlen
          simp at hlen
        · show 0 ≤ t.mr.leaves - 1; omega
        · show t.mr.leaves - 1 ≤ ((t.lv.set (t.mr.leaves - 1).toNat (-1)).length : Int)
          have := d.l1
          simp
          omega
        · have hj' : (j : Int) < t.mr.leaves - 1 := hj
          show ∃ b : Nat, (t.lv.set (t.mr.leaves - 1).toNat (-1))[j]? = some (b : Int)
          rw [List.getElem?_set_ne (by omega)]
          exact d.there j (by omega)
        · have hj' : t.mr.leaves - 1 ≤ (j : Int) := hj
          have hj2' : j < t.lv.length := by simpa using hj2
          show (t.lv.set (t.mr.leaves - 1).toNat (-1))[j]? = some (-1)
          by_cases ej : (t.mr.leaves - 1).toNat = j
          · rw [ej, List.getElem?_set_self hj2']
          · rw [List.getElem?_set_ne ej]
            exact d.gone j (by omega) hj2'
        · have hp2 : pendT ({ t with lv := t.lv.set (t.mr.leaves - 1).toNat (-1), mr := { t.mr with leaves := t.mr.leaves - 1 } }) = 1 + (t.mr.leaves - 1).toNat := by
            unfold pendT
            simp [hd]
          show D.pending - 1 + (pendT t : Int) = D.pending + (pendT ({ t with lv := t.lv.set (t.mr.leaves - 1).toNat (-1), mr := { t.mr with leaves := t.mr.leaves - 1 } }) : Int)
          rw [hp, hp2]
          omega
      · rw [if_neg hl]
        have hl0 : t.mr.leaves = 0 := by have := d.l0; omega
        have hlive : (({ D with grave := rest } : Wd).endAt (q : Int) t.h).live = D.live.filter (fun s => s.h != t.h) := live_upd_end (g := fun s => { s with ended := true }) (fun _ => rfl) S.nd hf
        have hmem : ∀ s, s ∈ D.live.filter (fun s => s.h != t.h) → s ∈ D.live ∧ s.h ≠ t.h := fun s hs => by
          have := List.mem_filter.1 hs
          exact ⟨this.1, by simpa using this.2⟩
        have hnd := S.gd
        rw [hg, List.nodup_cons] at hnd
        have hsum := sumL_end (φ := pendT) (g := fun s => { s with ended := true }) hf rfl
        have hp : pendT t = 1 := by unfold pendT; rw [hd, if_pos rfl, hl0]; rfl
        show San { ({ D with grave := rest } : Wd).endAt (q : Int) t.h with pending := D.pending - 1 }
        refine ⟨S.w, ?_, hnd.2, fun g hg' => ?_, fun s hs => ?_, fun s hs hr => ?_, ?_⟩
        · show ((({ D with grave := rest } : Wd).endAt (q : Int) t.h).live.map Th.h).Nodup
          rw [hlive]
          exact S.nd.sublist (List.Sublist.map _ List.filter_sublist)
        · obtain ⟨u, hu, e2⟩ := S.gv g (by rw [hg]; exact List.mem_cons_of_mem _ hg')
          refine ⟨u, ?_, e2⟩
          show u ∈ (({ D with grave := rest } : Wd).endAt (q : Int) t.h).live
          rw [hlive]
          refine List.mem_filter.2 ⟨hu, ?_⟩
          have : u.h ≠ t.h := fun ex => hnd.1 (by rw [← e, ← ex, e2]; exact hg')
          simpa using this
        · have hs' : s ∈ (({ D with grave := rest } : Wd).endAt (q : Int) t.h).live := hs
          rw [hlive] at hs'
          obtain ⟨h1, h2⟩ := hmem s hs'
          have k := S.ok s h1
          refine ⟨k.geo, ?_, k.dead, k.alive⟩
          show s.mr.dead = true ↔ s.h + 1 ∈ rest
          rw [k.iff_, hg, List.mem_cons]
          exact ⟨fun h => by rcases h with h | h; exact absurd (by omega) h2; exact h, fun h => .inr h⟩
        · have hs' : s ∈ (({ D with grave := rest } : Wd).endAt (q : Int) t.h).live := hs
          rw [hlive] at hs'
          exact S.ring s (hmem s hs').1 hr
        · show D.pending - 1 = (sumL pendT (updL (q : Int) (fun s => { s with ended := true }) D.ts) : Int)
          have := S.pend
          omega
/-! ### Each step is one less -/
end
end Go.Proofs.YtljdbaddockfcaaGreat.Pk

/-
  Counts are names: who is counted how often, whatever the grave drains. No program in sight.
-/
namespace Go.Proofs.YtljdbaddockfcaaGreat.Pk
open Go.RowKit
set_option linter.unusedVariables false
set_option linter.unusedSimpArgs false
set_option maxRecDepth 100000

/-- How often a number stands in a list. -/
def cntL (y : Int) : List Int → Nat
  | [] => 0
  | a :: l => (if a = y then 1 else 0) + cntL y l
theorem cntL_set (y x : Int) : ∀ (l : List Int) (i : Nat), i < l.length → cntL y (l.set i x) + (if nth l i = y then 1 else 0) = cntL y l + (if x = y then 1 else 0)
  | [], i, h => by simp at h
  | a :: l, 0, _ => by
    show (if x = y then 1 else 0) + cntL y l + (if a = y then 1 else 0) = (if a = y then 1 else 0) + cntL y l + (if x = y then 1 else 0)
    omega
  | a :: l, i + 1, h => by
    have := cntL_set y x l i (by simpa using h)
    show (if a = y then 1 else 0) + cntL y (l.set i x) + (if nth l i = y then 1 else 0) = (if a = y then 1 else 0) + cntL y l + (if x = y then 1 else 0)
    omega
theorem cntL_pos {y : Int} : ∀ {l : List Int} {i : Nat}, i < l.length → nth l i = y → 1 ≤ cntL y l
  | [], i, h, _ => by simp at h
  | a :: l, 0, _, e => by
    have : a = y := e
    unfold cntL
    rw [if_pos this]
    omega
  | a :: l, i + 1, h, e => by
    have := cntL_pos (l := l) (i := i) (by simpa using h) e
    unfold cntL
    omega
theorem cntL_zero {y : Int} (hy : y ≠ 0) : ∀ {l : List Int}, (∀ i, nth l i = 0) → cntL y l = 0
  | [], _ => rfl
  | a :: l, h => by
    have h0 : a = 0 := h 0
    unfold cntL
    rw [if_neg (by omega), cntL_zero hy (fun i => h (i + 1))]
/-- How often an object's fields name y. -/
def nmT (y : Int) (t : Th) : Nat := cntL y t.pt
/-- Counts are holds, and names; names are of objects that there are; who is dead has none. -/
structure Nam (hold : Nat → Nat) (D : Wd) : Prop where
  cnt : ∀ t, t ∈ D.live → t.mr.refs = ((hold t.h + sumL (nmT ((t.h : Int) + 1)) D.ts : Nat) : Int)
  good : ∀ t, t ∈ D.live → ∀ i, i < t.pt.length → nth t.pt i = 0 ∨ ∃ u, u ∈ D.live ∧ (u.h : Int) + 1 = nth t.pt i
  zer : ∀ t, t ∈ D.live → t.mr.dead = true → t.mr.refs = 0

section
variable {D D' : Wd} {r : Int} {t s u : Th} {hold : Nat → Nat}
theorem Nam.of (N : Nam hold D) (h1 : ∀ s, s ∈ D'.live → ∃ u, u ∈ D.live ∧ s.h = u.h ∧ s.mr.refs = u.mr.refs ∧ s.pt = u.pt ∧ (s.mr.dead = true → u.mr.dead = true ∨ u.mr.refs = 0)) (h2 : D'.live.map Th.h = D.live.map Th.h) (h3 : ∀ y, sumL (nmT y) D'.ts = sumL (nmT y) D.ts) : Nam hold D' := by
  refine ⟨fun s hs => ?_, fun s hs i hi => ?_, fun s hs hd => ?_⟩
  · obtain ⟨u, hu, e1, e2, e3, e4⟩ := h1 s hs
    rw [e1, e2, h3]
    exact N.cnt u hu
  · obtain ⟨u, hu, e1, e2, e3, e4⟩ := h1 s hs
    rw [e3] at hi ⊢
    rcases N.good u hu i hi with h | ⟨v, hv, h⟩
    · exact .inl h
    · obtain ⟨v', k1, k2⟩ := live_of_heads h2 hv
      exact .inr ⟨v', k1, by rw [k2]; exact h⟩
  · obtain ⟨u, hu, e1, e2, e3, e4⟩ := h1 s hs
    rw [e2]
    rcases e4 hd with h | h
    · exact N.zer u hu h
    · exact h
theorem mark_heads (r : Int) (f : Mrk → Mrk) : (D.mark r f).live.map Th.h = D.live.map Th.h := by
  cases hf : D.find r with
  | none => rw [mark_none f hf]
  | some t => exact updL_heads (g := fun t => { t with mr := f t.mr }) hf (find_at hf).2.1 rfl
theorem mark_live (S : San D) {f : Mrk → Mrk} (hs : s ∈ (D.mark r f).live) : ∃ u, u ∈ D.live ∧ (s = u ∨ s = { u with mr := f u.mr }) := by
  cases hf : D.find r with
  | none => rw [mark_none f hf] at hs; exact ⟨s, hs, .inl rfl⟩
  | some t =>
    rcases updL_mem (g := fun t => { t with mr := f t.mr }) S.nd hf hs with rfl | ⟨h, _⟩
    · exact ⟨t, (find_live hf).1, .inr rfl⟩
    · exact ⟨s, h, .inl rfl⟩
theorem Nam.mark (N : Nam hold D) (S : San D) (r : Int) {f : Mrk → Mrk} (h1 : ∀ m, (f m).refs = m.refs) (h2 : ∀ m, (f m).dead = m.dead) : Nam hold (D.mark r f) := by
  refine N.of (fun s hs => ?_) (mark_heads r f) (fun y => sumL_mark r (fun t => rfl))
  obtain ⟨u, hu, rfl | rfl⟩ := mark_live S hs
  · exact ⟨s, hu, rfl, rfl, rfl, fun h => .inl h⟩
  · exact ⟨u, hu, rfl, h1 _, rfl, fun h => .inl (by rw [← h2]; exact h)⟩
theorem Nam.bury (N : Nam hold D) (S : San D) {x : Int} (h0 : D.cnt x = 0) : Nam hold (D.bury x) := by
  cases hf : D.find x with
  | none => rw [show D.bury x = D by unfold Wd.bury; rw [hf]]; exact N
  | some t =>
    have hr : t.mr.refs = 0 := by unfold Wd.cnt at h0; rw [hf] at h0; exact h0
    have hsum : ∀ y, sumL (nmT y) (D.bury x).ts = sumL (nmT y) D.ts := fun y => sumL_bury x (fun t _ => rfl)
    cases hd : t.mr.dead with
    | true => rw [show D.bury x = D by unfold Wd.bury; rw [hf]; simp [hd]]; exact N
    | false =>
      have eb : D.bury x = D.lay x t := by unfold Wd.bury; rw [hf]; simp [hd]
      rw [eb] at hsum ⊢
      have hts := lay_ts (D := D) x t
      refine N.of (fun s hs => ?_) ?_ hsum
      · unfold Wd.live at hs
        rw [hts] at hs
        rcases updL_mem (g := fun s => { s with mr := { s.mr with dead := true, left := (t.pt.length : Int), leaves := (t.lv.length : Int) } }) S.nd hf hs with rfl | ⟨h, _⟩
        · exact ⟨t, (find_live hf).1, rfl, rfl, rfl, fun _ => .inr hr⟩
        · exact ⟨s, h, rfl, rfl, rfl, fun h => .inl h⟩
      · unfold Wd.live
        rw [hts]
        exact updL_heads (g := fun s => { s with mr := { s.mr with dead := true, left := (t.pt.length : Int), leaves := (t.lv.length : Int) } }) hf (find_at hf).2.1 rfl
theorem Nam.inter (N : Nam hold D) (S : San D) (x : Int) : Nam hold (D.inter x) := by
  unfold Wd.inter
  split
  · rename_i h; exact N.bury S h
  · exact N
/-- One name less than is counted, of x. -/
structure Nam1 (hold : Nat → Nat) (x : Int) (D : Wd) : Prop where
  cnt : ∀ t, t ∈ D.live → t.mr.refs = ((hold t.h + sumL (nmT ((t.h : Int) + 1)) D.ts + (if (t.h : Int) + 1 = x then 1 else 0) : Nat) : Int)
  good : ∀ t, t ∈ D.live → ∀ i, i < t.pt.length → nth t.pt i = 0 ∨ ∃ u, u ∈ D.live ∧ (u.h : Int) + 1 = nth t.pt i
  zer : ∀ t, t ∈ D.live → t.mr.dead = true → t.mr.refs = 0
  there : x = 0 ∨ ∃ u, u ∈ D.live ∧ (u.h : Int) + 1 = x
theorem Nam1.mark {x : Int} (N : Nam1 hold x D) (S : San D) (r : Int) {f : Mrk → Mrk} (h1 : ∀ m, (f m).refs = m.refs) (h2 : ∀ m, (f m).dead = m.dead) : Nam1 hold x (D.mark r f) := by
  have hsum : ∀ y, sumL (nmT y) (D.mark r f).ts = sumL (nmT y) D.ts := fun y => sumL_mark r (fun t => rfl)
  refine ⟨fun s hs => ?_, fun s hs i hi => ?_, fun s hs hd => ?_, ?_⟩
  · rw [hsum]
    obtain ⟨u, hu, rfl | rfl⟩ := mark_live S hs
    · exact N.cnt s hu
    · show (f u.mr).refs = _; rw [h1]; exact N.cnt u hu
  · have : ∃ u, u ∈ D.live ∧ s.pt = u.pt := by
      obtain ⟨u, hu, rfl | rfl⟩ := mark_live S hs
      · exact ⟨s, hu, rfl⟩
      · exact ⟨u, hu, rfl⟩
    obtain ⟨u, hu, e⟩ := this
    rw [e] at hi ⊢
    rcases N.good u hu i hi with h | ⟨v, hv, h⟩
    · exact .inl h
    · obtain ⟨v', k1, k2⟩ := live_of_heads (mark_heads r f) hv
      exact .inr ⟨v', k1, by rw [k2]; exact h⟩
  · obtain ⟨u, hu, rfl | rfl⟩ := mark_live S hs
    · exact N.zer s hu hd
    · show (f u.mr).refs = 0
      rw [h1]
      exact N.zer u hu (by rw [← h2]; exact hd)
  · rcases N.there with h | ⟨u, hu, h⟩
    · exact .inl h
    · obtain ⟨v', k1, k2⟩ := live_of_heads (mark_heads r f) hu
      exact .inr ⟨v', k1, by rw [k2]; exact h⟩
/-- A field is set to nothing. -/
theorem Nam.clear (N : Nam hold D) (S : San D) (hf : D.find r = some t) {i : Nat} (hi : i < t.pt.length) : Nam1 hold (nth t.pt i) (D.setP r i 0) := by
  have htl := (find_live hf).1
  have hsum : ∀ y : Int, y ≠ 0 → sumL (nmT y) (D.setP r i 0).ts + (if nth t.pt i = y then 1 else 0) = sumL (nmT y) D.ts := fun y hy => by
    have h1 := sumL_setP (φ := nmT y) hf i 0
    have h2 := cntL_set y 0 t.pt i hi
    rw [if_neg (Ne.symm hy)] at h2
    have h3 : nmT y { t with pt := t.pt.set i 0 } = cntL y (t.pt.set i 0) := rfl
    have h4 : nmT y t = cntL y t.pt := rfl
    omega
  have hheads : (D.setP r i 0).live.map Th.h = D.live.map Th.h := updL_heads (g := fun t => { t with pt := t.pt.set i 0 }) hf (find_at hf).2.1 rfl
  have hmem : ∀ s, s ∈ (D.setP r i 0).live → s = { t with pt := t.pt.set i 0 } ∨ (s ∈ D.live ∧ s.h ≠ t.h) := fun s hs => updL_mem S.nd hf hs
  have hb : ∀ s, s ∈ (D.setP r i 0).live → ∃ u, u ∈ D.live ∧ s.h = u.h ∧ s.mr = u.mr := fun s hs => by
    rcases hmem s hs with rfl | ⟨h, _⟩
    · exact ⟨t, htl, rfl, rfl⟩
    · exact ⟨s, h, rfl, rfl⟩
  refine ⟨fun s hs => ?_, fun s hs j hj => ?_, fun s hs hd => ?_, ?_⟩
  · obtain ⟨u, hu, e1, e2⟩ := hb s hs
    have h1 := N.cnt u hu
    have h2 := hsum ((u.h : Int) + 1) (by omega)
    rw [e1, e2, h1]
    have e : (if nth t.pt i = (u.h : Int) + 1 then 1 else 0) = (if (u.h : Int) + 1 = nth t.pt i then 1 else 0) := by
      by_cases h : nth t.pt i = (u.h : Int) + 1
      · rw [if_pos h, if_pos h.symm]
      · rw [if_neg h, if_neg (fun x => h x.symm)]
    rw [e] at h2
    omega
  · rcases hmem s hs with rfl | ⟨h, _⟩
    · show nth (t.pt.set i 0) j = 0 ∨ ∃ u : Th, u ∈ (D.setP r i 0).live ∧ (u.h : Int) + 1 = nth (t.pt.set i 0) j
      by_cases e : i = j
      · subst e
        rw [nth_set_eq hi]
        exact .inl rfl
      · rw [nth_set_ne e]
        rcases N.good t htl j (by simpa using hj) with h | ⟨v, hv, h⟩
        · exact .inl h
        · obtain ⟨v', k1, k2⟩ := live_of_heads hheads hv
          exact .inr ⟨v', k1, by rw [k2]; exact h⟩
    · rcases N.good s h j hj with h | ⟨v, hv, h⟩
      · exact .inl h
      · obtain ⟨v', k1, k2⟩ := live_of_heads hheads hv
        exact .inr ⟨v', k1, by rw [k2]; exact h⟩
  · obtain ⟨u, hu, e1, e2⟩ := hb s hs
    rw [e2] at hd ⊢
    exact N.zer u hu hd
  · rcases N.good t htl i hi with h | ⟨v, hv, h⟩
    · exact .inl h
    · obtain ⟨v', k1, k2⟩ := live_of_heads hheads hv
      exact .inr ⟨v', k1, by rw [k2]; exact h⟩
theorem Nam1.none (N : Nam1 hold 0 D) : Nam hold D := ⟨fun t ht => by have := N.cnt t ht; rw [if_neg (by omega)] at this; simpa using this, N.good, N.zer⟩
theorem Nam1.down {x : Int} (N : Nam1 hold x D) (S : San D) : Nam hold (D.down x) := by
  have hsum : ∀ y, sumL (nmT y) (D.down x).ts = sumL (nmT y) D.ts := fun y => sumL_mark x (fun t => rfl)
  have hh := mark_heads (D := D) x (fun m => { m with refs := m.refs - 1 })
  cases hf : D.find x with
  | none =>
    have e : D.down x = D := mark_none _ hf
    rw [e]
    refine ⟨fun t ht => ?_, N.good, N.zer⟩
    have := N.cnt t ht
    rw [if_neg (fun h => by have := S.findIt ht; rw [h, hf] at this; cases this)] at this
    simpa using this
  | some t =>
    obtain ⟨htl, hr⟩ := find_live hf
    have hmem : ∀ s, s ∈ (D.down x).live → s = { t with mr := { t.mr with refs := t.mr.refs - 1 } } ∨ (s ∈ D.live ∧ s.h ≠ t.h) := fun s hs => updL_mem (g := fun t => { t with mr := { t.mr with refs := t.mr.refs - 1 } }) S.nd hf hs
    refine ⟨fun s hs => ?_, fun s hs i hi => ?_, fun s hs hd => ?_⟩
    · rw [hsum]
      rcases hmem s hs with rfl | ⟨h, hne⟩
      · have := N.cnt t htl
        rw [if_pos hr] at this
        show t.mr.refs - 1 = ((hold t.h + sumL (nmT ((t.h : Int) + 1)) D.ts : Nat) : Int)
        omega
      · have := N.cnt s h
        rw [if_neg (by omega)] at this
        simpa using this
    · have : ∃ u, u ∈ D.live ∧ s.pt = u.pt := by
        rcases hmem s hs with rfl | ⟨h, _⟩
        · exact ⟨t, htl, rfl⟩
        · exact ⟨s, h, rfl⟩
      obtain ⟨u, hu, e⟩ := this
      rw [e] at hi ⊢
      rcases N.good u hu i hi with h | ⟨v, hv, h⟩
      · exact .inl h
      · obtain ⟨v', k1, k2⟩ := live_of_heads hh hv
        exact .inr ⟨v', k1, by rw [k2]; exact h⟩
    · rcases hmem s hs with rfl | ⟨h, hne⟩
      · exfalso
        have h0 := N.zer t htl hd
        have := N.cnt t htl
        rw [if_pos hr] at this
        omega
      · exact N.zer s h hd
theorem Nam.drain (N : Nam hold D) (S : San D) (hf : D.find r = some t) {i : Nat} (hi : i < t.pt.length) : Nam hold (D.drain r i (nth t.pt i)) := by
  have N1 := N.clear S hf hi
  have S1 := S.setP hf i (x := 0) (fun _ => rfl)
  generalize nth t.pt i = x at N1
  unfold Wd.drain
  by_cases hc : (D.setP r i 0).cnt x = 0
  · rw [if_pos hc]
    rcases N1.there with rfl | ⟨u, hu, e⟩
    · exact N1.none
    · exfalso
      have h1 := N1.cnt u hu
      rw [if_pos e] at h1
      unfold Wd.cnt at hc
      rw [← e, S1.findIt hu] at hc
      simp only at hc
      omega
  · rw [if_neg hc]
    have key : ∀ D2 : Wd, San D2 → Nam1 hold x D2 → Nam hold (if (D2.down x).cnt x = 0 then (D2.down x).bury x else D2.down x) := fun D2 S2 N2 => by
      split
      · rename_i h; exact (N2.down S2).bury (S2.down x) h
      · exact N2.down S2
    have K : San (if (D.setP r i 0).counted r i then (D.setP r i 0).lighten x else D.setP r i 0) ∧ Nam1 hold x (if (D.setP r i 0).counted r i then (D.setP r i 0).lighten x else D.setP r i 0) := by
      split
      · refine ⟨S1.lighten x, ?_⟩
        unfold Wd.lighten
        split
        · exact N1.mark S1 x (fun _ => rfl) (fun _ => rfl)
        · exact N1
      · exact ⟨S1, N1⟩
    exact key _ K.1 K.2
theorem Nam.step (N : Nam hold D) (S : San D) : Nam hold D.step := by
  cases hg : D.grave with
  | nil => unfold Wd.step; rw [hg]; exact N
  | cons q rest =>
    obtain ⟨t, htl, e, hf, hd, d, es⟩ := S.head hg
    have hw := S.w
    rw [es]
    unfold Wd.work
    by_cases ha : D.ahead t.mr.leaves < t.mr.left
    · have h0 : 0 ≤ D.ahead t.mr.leaves := by
        unfold Wd.ahead
        refine Int.mul_nonneg ?_ (by omega)
        split <;> omega
      rw [if_pos ha]
      have hi : (t.mr.left - 1).toNat < t.pt.length := by have := d.f1; omega
      exact (N.drain S hf hi).mark (S.drain hf _ _) _ (fun _ => rfl) (fun _ => rfl)
    · rw [if_neg ha]
      by_cases hl : 0 < t.mr.leaves
      · rw [if_pos hl]
        refine N.of (fun s hs => ?_) ?_ (fun y => ?_)
        · unfold Wd.live at hs
          have hs' : s ∈ liveL ((D.cutLeaf (q : Int) (t.mr.leaves - 1).toNat (nth t.lv (t.mr.leaves - 1).toNat).toNat).mark (q : Int) (fun m => { m with leaves := t.mr.leaves - 1 })).ts := hs
          rw [cut_mark] at hs'
          rcases updL_mem (g := fun s => { s with lv := s.lv.set (t.mr.leaves - 1).toNat (-1), mr := { s.mr with leaves := t.mr.leaves - 1 } }) S.nd hf hs' with rfl | ⟨h, _⟩
          · exact ⟨t, htl, rfl, rfl, rfl, fun _ => .inl hd⟩
          · exact ⟨s, h, rfl, rfl, rfl, fun h => .inl h⟩
        · show (liveL ((D.cutLeaf (q : Int) (t.mr.leaves - 1).toNat (nth t.lv (t.mr.leaves - 1).toNat).toNat).mark (q : Int) (fun m => { m with leaves := t.mr.leaves - 1 })).ts).map Th.h = _
          rw [cut_mark]
          exact updL_heads (g := fun s => { s with lv := s.lv.set (t.mr.leaves - 1).toNat (-1), mr := { s.mr with leaves := t.mr.leaves - 1 } }) hf (find_at hf).2.1 rfl
        · show sumL (nmT y) ((D.cutLeaf (q : Int) (t.mr.leaves - 1).toNat (nth t.lv (t.mr.leaves - 1).toNat).toNat).mark (q : Int) (fun m => { m with leaves := t.mr.leaves - 1 })).ts = _
          rw [cut_mark]
          have h2 := sumL_upd (φ := nmT y) (g := fun s => { s with lv := s.lv.set (t.mr.leaves - 1).toNat (-1), mr := { s.mr with leaves := t.mr.leaves - 1 } }) hf (find_at hf).2.1
          have h3 : nmT y { t with lv := t.lv.set (t.mr.leaves - 1).toNat (-1), mr := { t.mr with leaves := t.mr.leaves - 1 } } = nmT y t := rfl
          have h2 : _ + nmT y t = _ + nmT y { t with lv := t.lv.set (t.mr.leaves - 1).toNat (-1), mr := { t.mr with leaves := t.mr.leaves - 1 } } := h2
          omega
      · rw [if_neg hl]
        have hl0 : t.mr.leaves = 0 := by have := d.l0; omega
        have hleft : t.mr.left = 0 := by rw [hl0, ahead_zero] at ha; have := d.f0; omega
        have hz : ∀ i, nth t.pt i = 0 := fun i => d.zero i (by omega)
        have hlive : (({ D with grave := rest } : Wd).endAt (q : Int) t.h).live = D.live.filter (fun s => s.h != t.h) := live_upd_end (g := fun s => { s with ended := true }) (fun _ => rfl) S.nd hf
        have hmem : ∀ s, s ∈ D.live.filter (fun s => s.h != t.h) → s ∈ D.live ∧ s.h ≠ t.h := fun s hs => by
          have := List.mem_filter.1 hs
          exact ⟨this.1, by simpa using this.2⟩
        have hsum : ∀ y : Int, y ≠ 0 → sumL (nmT y) (updL (q : Int) (fun s => { s with ended := true }) D.ts) = sumL (nmT y) D.ts := fun y hy => by
          have := sumL_end (φ := nmT y) (g := fun s => { s with ended := true }) hf rfl
          have h0 : nmT y t = 0 := cntL_zero hy hz
          omega
        have hnone : ∀ s, s ∈ D.live → ∀ i, i < s.pt.length → nth s.pt i ≠ (t.h : Int) + 1 := fun s hs i hi e2 => by
          have h1 := N.cnt t htl
          rw [N.zer t htl hd] at h1
          have h2 := sumL_mem (φ := nmT ((t.h : Int) + 1)) hs
          have h3 : 1 ≤ nmT ((t.h : Int) + 1) s := cntL_pos hi e2
          have h4 : nmT ((t.h : Int) + 1) s ≤ sumL (nmT ((t.h : Int) + 1)) D.ts := h2
          omega
        show Nam hold { ({ D with grave := rest } : Wd).endAt (q : Int) t.h with pending := D.pending - 1 }
        refine ⟨fun s hs => ?_, fun s hs i hi => ?_, fun s hs hds => ?_⟩
        · have hs' : s ∈ (({ D with grave := rest } : Wd).endAt (q : Int) t.h).live := hs
          rw [hlive] at hs'
          have := N.cnt s (hmem s hs').1
          rw [this]
          show _ = ((hold s.h + sumL (nmT ((s.h : Int) + 1)) (updL (q : Int) (fun s => { s with ended := true }) D.ts) : Nat) : Int)
          rw [hsum _ (by omega)]
        · have hs' : s ∈ (({ D with grave := rest } : Wd).endAt (q : Int) t.h).live := hs
          rw [hlive] at hs'
          have h1 := (hmem s hs').1
          rcases N.good s h1 i hi with h | ⟨v, hv, h⟩
          · exact .inl h
          · refine .inr ⟨v, ?_, h⟩
            show v ∈ (({ D with grave := rest } : Wd).endAt (q : Int) t.h).live
            rw [hlive]
            refine List.mem_filter.2 ⟨hv, ?_⟩
            have : v.h ≠ t.h := fun ex => hnone s h1 i hi (by rw [← h, ex])
            simpa using this
        · have hs' : s ∈ (({ D with grave := rest } : Wd).endAt (q : Int) t.h).live := hs
          rw [hlive] at hs'
          exact N.zer s (hmem s hs').1 hds
end
end Go.Proofs.YtljdbaddockfcaaGreat.Pk
