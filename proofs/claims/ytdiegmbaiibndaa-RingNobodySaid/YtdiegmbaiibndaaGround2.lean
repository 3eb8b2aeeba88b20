/-
  The program's ground: whole blocks, all words, the meter, the configuration; new ones.
-/
import Derived.Test.YtdiegmbaiibndaaGround
import Derived.Test.YtdiegmbaiibndaaPlanNums
import Derived.LoopTactic
namespace Go.Proofs.Ytdiegmbaiibndaa.Pk
open Go.RowKit
set_option linter.unusedVariables false
set_option linter.unusedSimpArgs false

theorem gmeter_any (p : Pl) (c : Cf) (s : St) (w : World) (hG : G w p c s) :
    Calls Try.prog 9 #[.pointer (some ⟨p.a, 0, none⟩)] w fun e w' => e = .returned (.int .u64 (u64m s.m)) ∧ w = w' := by
  have cp := hG.ptr
  have HG := Lib.hid hG
  clear hG
  go_enter Try.func9, Try.ntmps9
  go_wp2_with fail
  refine (meter_any p.s p.g s.zs _ _ HG.out.st).mono ?_
  rintro e w1 ⟨rfl, rfl⟩
  go_wp2_with fail
  go_ret
  exact ⟨rfl, rfl⟩
theorem gconf_any (p : Pl) (c : Cf) (s : St) (w : World) (hG : G w p c s) :
    Calls Try.prog 33 #[.pointer (some ⟨p.a, 0, none⟩)] w fun e w' => e = .returned c.val ∧ Below w.heap.size w w' := by
  have cN := hG.cN
  have cW := hG.cW
  have cR := hG.cR
  have cK := hG.cK
  have ha := hG.head.lt
  clear hG
  go_enter Try.func33, Try.ntmps33
  go_wp2_with fail
  exact bodyPost_ret (v := c.val) (by simp [results, Try.results33, go_sem, Cf.val]) rfl ⟨rfl, by
    repeat refine Below.setCell ?_ (by simp) _
    exact below_new w _⟩

/-- Words made 0, from one on. -/
def St.wipe (s : St) (f : Nat) : Nat → St
  | 0 => s
  | n + 1 => (s.wipe f n).set (f + n) 0
theorem St.wipe_len (s : St) (f n : Nat) : (s.wipe f n).zs.length = s.zs.length := by
  induction n with
  | zero => rfl
  | succ n ih => rw [← ih]; exact St.set_len _ _ _
theorem St.wipe_m (s : St) (f n : Nat) : (s.wipe f n).m = s.m + n := by
  induction n with
  | zero => rfl
  | succ n ih => show (s.wipe f n).m + 1 = _; omega
theorem St.wipe_nth (s : St) (f n k : Nat) (h : f + n ≤ s.zs.length) : nth (s.wipe f n).zs k = if f ≤ k ∧ k < f + n then 0 else nth s.zs k := by
  induction n with
  | zero => rw [if_neg (by omega)]; rfl
  | succ n ih =>
    show nth ((s.wipe f n).zs.set (f + n) 0) k = _
    by_cases e : f + n = k
    · subst e
      rw [nth_set_eq (by rw [St.wipe_len]; omega), if_pos (by omega)]
    · rw [nth_set_ne e, ih (by omega)]
      by_cases h1 : f ≤ k ∧ k < f + n
      · rw [if_pos h1, if_pos (by omega)]
      · rw [if_neg h1, if_neg (by omega)]
theorem WfZ.wipe {s : St} (h : WfZ s.zs) (f n : Nat) : WfZ (s.wipe f n).zs := by
  induction n with
  | zero => exact h
  | succ n ih => exact WfZ.set ih _ (Int.le_refl _) (by decide)
/-- What Wipe does. -/
def St.wiped (s : St) (c : Cf) (b : Int) : St := match wordA c b 0 with | some f => s.wipe f c.W | none => s

def wipeV (c : Cf) (b : Int) : Int := if bel b c.N then (c.W : Int) else 0
/-- A new ground, all words 0. -/
def NewG (tg ts e : TypeId) (w : World) (c : Cf) (en : Ending) (w' : World) : Prop :=
  ∃ p : Pl, en = .returned (.tuple #[.pointer (some ⟨p.a, 0, none⟩), .int .i64 0]) ∧ Grd tg ts e w' p c ⟨List.replicate c.size 0, 0⟩ ∧ (∀ k, ofG p k → w.heap.size ≤ k) ∧ Below w.heap.size w w'

theorem numsC {c : Cf} : numsV c.N c.W c.R c.K = .agg #[.int .i64 (c.size : Int), .int .i64 ((c.W : Int) - 8), .int .i64 ((c.W : Int) - 7), .int .i64 (fieldsI c.W), .int .i64 (epochI c.N c.W), .int .i64 (drainI c.N c.W), .int .i64 (lagI c.N c.W c.K), .int .i64 (settleI c.N c.W c.K)] := by
  unfold numsV
  have e : wordsI (c.N : Int) (c.W : Int) (c.R : Int) = (c.size : Int) := by
    unfold wordsI Cf.size
    simp [Int.natCast_add, Int.natCast_mul]
  rw [e]

set_option maxHeartbeats 400000 in
theorem gnew_yes (c : Cf) (w : World) (h : c.May) :
    Calls Try.prog 19 #[c.val] w (NewG 64 90 46 w c) := by
  have HM := Lib.hid h
  unfold Cf.val
  clear h
  go_enter Try.func19, Try.ntmps19
  go_wp2_with fail
  refine (ofV _ HM.out numsC).mono ?_
  rintro e w1 ⟨rfl, hb⟩
  obtain ⟨hc, hf⟩ := bcell hb
  have hz : w.heap.size < w1.heap.size := by have := hb.size; simp at this; omega
  have HB := Lib.hid (below_step (below_new w _) hb)
  clear hb
  go_wp2_with fail
  refine (new_yes c.size _ (by have := HM.out.size; omega)).mono ?_
  rintro e w2 ⟨s, g, rfl, hS, hs, hg, hb⟩
  have HS := Lib.hid hS
  have HB2 := Lib.hid hb
  have Hs := Lib.hid hs
  have Hg := Lib.hid hg
  obtain ⟨hc2, hf2⟩ := bcell hb
  have hz2 : w.heap.size < w2.heap.size := by have := hb.size; simp at this; omega
  have c0 : w2.cell? ⟨w.heap.size, 0, none⟩ = some (.int .i64 (c.N : Int)) := by rw [hc2 _ _ (by simp; omega)]; go_simp
  have c1 : w2.cell? ⟨w.heap.size, 1, none⟩ = some (.int .i64 (c.W : Int)) := by rw [hc2 _ _ (by simp; omega)]; go_simp
  have c2 : w2.cell? ⟨w.heap.size, 2, none⟩ = some (.int .i64 (c.R : Int)) := by rw [hc2 _ _ (by simp; omega)]; go_simp
  have c3 : w2.cell? ⟨w.heap.size, 3, none⟩ = some (.int .i64 (c.K : Int)) := by rw [hc2 _ _ (by simp; omega)]; go_simp
  clear hS hs hg hb hc hf hc2 hf2
  go_wp2_with fail
  go_ret2
  exact ⟨⟨w2.heap.size, s, g⟩, rfl, ⟨Blk.new w2 _ _, HS.out.alloc _, by simp, by have := HS.out.head.lt; simp; omega, by have := HS.out.body.lt; simp; omega, HM.out, WfZ.rep _⟩, by
    have h1 := HB.out.size
    have h2 := HB2.out.size
    have h3 := Hs.out
    have h4 := Hg.out
    simp at h2 h3 h4
    intro k hk
    have hk' : k = w2.heap.size ∨ k = s ∨ k = g := hk
    omega, by
    have h1 := HB.out.size
    have h2 := HB2.out.size
    simp at h2
    exact ((HB.out.alloc HB.out.size _).trans (HB2.out.mono (by simp; omega))).alloc (by omega) _⟩

theorem gnew_no (n v r k : Int) (w : World) (h : mayB n v r k = false) :
    Calls Try.prog 19 #[.agg #[.int .i64 n, .int .i64 v, .int .i64 r, .int .i64 k]] w fun e w' => e = .returned (.tuple #[.pointer none, .int .i64 1]) ∧ Below w.heap.size w w' := by
  have HM := Lib.hid h
  clear h
  go_enter Try.func19, Try.ntmps19
  go_wp2_with fail
  refine (of_no _ _ _ _ _ HM.out).mono ?_
  rintro e w1 ⟨rfl, hb⟩
  have HB := Lib.hid (below_step (below_new w _) hb)
  clear hb
  go_wp2_with fail
  go_ret2
  exact ⟨rfl, HB.out.alloc HB.out.size _⟩

end Go.Proofs.Ytdiegmbaiibndaa.Pk
