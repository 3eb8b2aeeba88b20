/-
  An act on both stores: they are told alike.
-/
import Derived.Test.YtpnjanidkphkcaaStore
import Derived.Test.YtpnjanidkphkcaaSame
import Derived.Deep.RegionHeld3
import Derived.Test.YtpnjanidkphkcaaTame
import Derived.BigQuiet
namespace Go.Proofs.Ytpnjanidkphkcaa.Pk
open Go.RowKit
set_option linter.unusedVariables false
set_option linter.unusedSimpArgs false

theorem new_3 (w : World) : Calls Try.prog 8 #[.int .i64 3] w (NewStore w 54 30 3) := new_yes 3 w (by decide)
theorem put_1 (s g : Nat) (w : World) (hS : Sto w 54 30 s g [0, 0, 0] 0) :
    Calls Try.prog 17 #[.pointer (some ⟨s, 0, none⟩), .int .i64 1, .int .u32 7] w (StoPost w 54 30 s g [0, 7, 0] 1 (.bool true)) := put_yes s g [0, 0, 0] 0 7 1 w hS (by decide) (by decide) (by decide)
theorem get_1 (s g : Nat) (w : World) (hS : Sto w 54 30 s g [0, 7, 0] 1) :
    Calls Try.prog 18 #[.pointer (some ⟨s, 0, none⟩), .int .i64 1] w (StoPost w 54 30 s g [0, 7, 0] 2 (.int .u32 7)) := get_yes s g [0, 7, 0] 1 1 w hS (by decide) (by decide) (by decide)
theorem get_3 (s g : Nat) (w : World) (hS : Sto w 54 30 s g [0, 7, 0] 2) :
    Calls Try.prog 18 #[.pointer (some ⟨s, 0, none⟩), .int .i64 3] w fun e w' => e = .returned (.int .u32 0) ∧ w = w' := get_no s g [0, 7, 0] 2 3 w hS (.inr (by decide))

set_option maxHeartbeats 400000 in
theorem begun4_any (w : World) : Calls Try.prog 7 #[] w fun e w' => e = .returned (.bool true) ∧ Below w.heap.size w w' := by
  go_enter Try.func7, Try.ntmps7
  go_wp2_with fail
  refine (new_3 _).mono ?_
  rintro e w1 ⟨s, g, rfl, hS, hs, hg, hb⟩
  have HS := Lib.hid hS
  have HB := Lib.hid hb
  have Hs := Lib.hid hs
  have Hg := Lib.hid hg
  clear hS hb hs hg
  go_wp2_with fail
  refine (put_1 s g _ HS.out).mono ?_
  rintro e w2 ⟨rfl, hS, hT⟩
  have HS2 := Lib.hid hS
  have HB2 := Lib.hid (HB.out.trans (hT.below (B := w.heap.size) (fun k hk => by rcases hk with rfl | rfl; exact Hs.out; exact Hg.out) HB.out.size))
  clear hS hT HS HB
  go_wp2_with fail
  refine (get_1 s g _ HS2.out).mono ?_
  rintro e w3 ⟨rfl, hS, hT⟩
  have HS3 := Lib.hid hS
  have HB3 := Lib.hid (HB2.out.trans (hT.below (B := w.heap.size) (fun k hk => by rcases hk with rfl | rfl; exact Hs.out; exact Hg.out) HB2.out.size))
  clear hS hT HS2 HB2
  go_wp2_with fail
  refine (get_3 s g _ HS3.out).mono ?_
  rintro e w4 ⟨rfl, rfl⟩
  go_wp2_with fail
  refine (meter_any s g _ _ _ HS3.out).mono ?_
  rintro e w4 ⟨rfl, rfl⟩
  go_wp2_with fail
  go_ret
  exact ⟨rfl, HB3.out⟩

/-! ### One act -/
/-- Both stores hold the same. -/
structure Both (w : World) (s g r h : Nat) (zs : List Int) (m : Int) : Prop where
  st : Sto w 54 30 s g zs m
  rf : Sto w 38 30 r h zs m
  sr : s ≠ r
  sh : s ≠ h
  gr : g ≠ r
  gh : g ≠ h
def inBoth (s g r h : Nat) : Nat → Prop := fun k => inSto s g k ∨ inSto r h k
theorem Both.alloc {w : World} {s g r h : Nat} {zs : List Int} {m : Int} (b : Both w s g r h zs m) (o : Obj) : Both (w.alloc o) s g r h zs m := ⟨b.st.alloc o, b.rf.alloc o, b.sr, b.sh, b.gr, b.gh⟩
theorem Both.drew {w : World} {s g r h : Nat} {zs : List Int} {m : Int} (b : Both w s g r h zs m) : Both w.drew s g r h zs m := ⟨b.st.drew, b.rf.drew, b.sr, b.sh, b.gr, b.gh⟩
theorem Both.lt {w : World} {s g r h : Nat} {zs : List Int} {m : Int} (b : Both w s g r h zs m) {k : Nat} (hk : inBoth s g r h k) : k < w.heap.size := by
  rcases hk with (rfl | rfl) | (rfl | rfl)
  · exact b.st.head.lt
  · exact b.st.body.lt
  · exact b.rf.head.lt
  · exact b.rf.body.lt
theorem Both.not_st {w : World} {s g r h : Nat} {zs : List Int} {m : Int} (b : Both w s g r h zs m) : ¬ inSto r h s ∧ ¬ inSto r h g ∧ ¬ inSto s g r ∧ ¬ inSto s g h := by
  have h1 := b.sr; have h2 := b.sh; have h3 := b.gr; have h4 := b.gh
  unfold inSto
  omega
/-- Behind an act. -/
def DoPost (w : World) (s g r h : Nat) (zs : List Int) (m : Int) (en : Ending) (w' : World) : Prop :=
  en = .returned (.bool true) ∧ Both w' s g r h zs m ∧ Touch (inBoth s g r h) w w'
/-- The first store has gone on, then the second. -/
theorem both_on {w w1 w2 : World} {s g r h : Nat} {zs zs' : List Int} {m m' : Int} (b : Both w s g r h zs m) (h1 : Sto w1 54 30 s g zs' m') (t1 : Touch (inSto s g) w w1)
    (h2 : Sto w2 38 30 r h zs' m') (t2 : Touch (inSto r h) w1 w2) : Both w2 s g r h zs' m' ∧ Touch (inBoth s g r h) w w2 := by
  obtain ⟨n1, n2, n3, n4⟩ := b.not_st
  exact ⟨⟨h1.touch t2 n1 n2, h2, b.sr, b.sh, b.gr, b.gh⟩, (t1.mono fun k _ hk => .inl hk).trans (t2.mono fun k _ hk => .inr hk)⟩
theorem box_touch {w w1 : World} {o : Obj} {X : Nat → Prop} (hX : ∀ k, X k → k < w.heap.size) (t : Touch X (w.alloc o) w1) (j : Nat) : w1.cell? ⟨w.heap.size, j, none⟩ = (w.alloc o).cell? ⟨w.heap.size, j, none⟩ :=
  t.cell (p := ⟨w.heap.size, j, none⟩) (by simp) (fun hx => absurd (hX _ hx) (Nat.lt_irrefl _))
theorem box_keep {w w1 w2 : World} {o : Obj} {X : Nat → Prop} (hX : ∀ k, X k → k < w.heap.size) (hs : (w.alloc o).heap.size ≤ w1.heap.size) (t : Touch X w1 w2) (j : Nat) : w2.cell? ⟨w.heap.size, j, none⟩ = w1.cell? ⟨w.heap.size, j, none⟩ :=
  t.cell (p := ⟨w.heap.size, j, none⟩) (by simp at hs; show w.heap.size < _; omega) (fun hx => absurd (hX _ hx) (Nat.lt_irrefl _))

theorem bne_of {a b : Int} (h : a ≠ b) : (a == b) = false := by rw [beq_eq_false_iff_ne]; exact h
theorem Both.later {w w' : World} {s g r h : Nat} {zs : List Int} {m : Int} (b : Both w s g r h zs m) (k : Below w.heap.size w w') : Both w' s g r h zs m := ⟨b.st.later k, b.rf.later k, b.sr, b.sh, b.gr, b.gh⟩
theorem Both.drw {w w' : World} {s g r h : Nat} {zs : List Int} {m : Int} (b : Both w s g r h zs m) (k : Drw w w') : Both w' s g r h zs m := b.later k.new
theorem Touch.of_drw {X : Nat → Prop} {w w' : World} (k : Drw w w') : Touch X w w' := Touch.of_below k.new
theorem lenR_any (s g q : Nat) (w : World) (hS : Sto w 54 30 s g (List.replicate q 0) 0) :
    Calls Try.prog 14 #[.pointer (some ⟨s, 0, none⟩)] w fun e w' => e = .returned (.int .i64 (q : Int)) ∧ w = w' := by
  have := len_any s g _ _ w hS
  simpa using this
theorem wordsR_any (s g q : Nat) (w : World) (hS : Sto w 54 30 s g (List.replicate q 0) 0) (hn : q ≤ 10000000) :
    Calls Try.prog 13 #[.pointer (some ⟨s, 0, none⟩)] w fun en w' => ∃ u, en = .returned (.slice (some ⟨u, 0, none⟩) q q) ∧ Blk w' u (words (List.replicate q 0)) 30 ∧ w.heap.size ≤ u ∧ Below w.heap.size w w' := by
  refine (words_any s g _ _ w hS (by simpa using hn)).mono ?_
  rintro e w' ⟨u, he, hb, h2, h3⟩
  exact ⟨u, by simpa using he, hb, h2, h3⟩
theorem nth_replicate (q k : Nat) : nth (List.replicate q 0) k = 0 := by
  unfold nth
  rw [List.getD_eq_getElem?_getD, List.getElem?_replicate]
  split <;> rfl
theorem nth_set {zs : List Int} {k : Nat} (hk : k < zs.length) (v : Int) : nth (zs.set k v) k = v := by
  unfold nth
  simp [List.getD, hk]
theorem peekR_any (s g q k : Nat) (w : World) (hS : Sto w 54 30 s g (List.replicate q 0) 0) (hk : k < q) :
    Calls Try.prog 15 #[.pointer (some ⟨s, 0, none⟩), .int .i64 (k : Int)] w fun e w' => e = .returned (.int .u32 0) ∧ w = w' := by
  have := peek_yes s g _ _ k w hS (by simpa using hk)
  rwa [nth_replicate] at this
theorem peekS_any (s g q k : Nat) (w : World) (hS : Sto w 54 30 s g ((List.replicate q 0).set k 9) 0) (hk : k < q) :
    Calls Try.prog 15 #[.pointer (some ⟨s, 0, none⟩), .int .i64 (k : Int)] w fun e w' => e = .returned (.int .u32 9) ∧ w = w' := by
  have := peek_yes s g _ _ k w hS (by simpa using hk)
  rwa [nth_set (by simpa using hk)] at this
theorem blk_row {w : World} {q : Nat} {e : TypeId} {zs : List Int} (h : Blk w q (words zs) e) : Row w .u32 (some ⟨q, 0, none⟩) zs := fun i hi =>
  ⟨q, 0, rfl, h.lt, by rw [Nat.zero_add]; exact h.cell i (words_get hi)⟩

set_option maxRecDepth 100000 in
set_option maxHeartbeats 1000000 in
theorem do_get_yes (s g r h : Nat) (zs lz : List Int) (m wd : Int) (k : Nat) (a : Option Addr) (n cap : Nat) (w : World) (hB : Both w s g r h zs m) (hk : k < zs.length) (h0 : 0 ≤ m) (h1 : m < 1000000) :
    Calls Try.prog 10 #[.pointer (some ⟨s, 0, none⟩), .pointer (some ⟨r, 0, none⟩), .agg #[.int .u8 0, .int .i64 (k : Int), .int .u32 wd, .slice a n cap]] w (DoPost w s g r h zs (m + 1)) := by
  have HB := Lib.hid hB
  have HL := Lib.hid fun k (hk : inSto s g k) => hB.lt (.inl hk)
  have HLr := Lib.hid fun k (hk : inSto r h k) => hB.lt (.inr hk)
  clear hB
  go_enter Try.func10, Try.ntmps10
  go_wp2_with fail
  go_region_held3 (fun w' => w'.cell? ⟨w.heap.size, 1, none⟩ = some (.int .i64 (k : Int))) (first | go_keep | assumption)
    (first | (go_at_call 18; refine (get_yes s g zs m k _ (HB.out.alloc _).drew.st hk h0 h1).mono ?_; rintro e w1 ⟨rfl, hS1, hT1'⟩; have hT1 := hT1'.undrew; have cb : w1.cell? ⟨w.heap.size, 1, none⟩ = some (.int .i64 (k : Int)) := (box_touch HL.out hT1 1).trans (by go_simp); have HR1 := Lib.hid ((HB.out.alloc _).rf.touch hT1 HB.out.not_st.2.2.1 HB.out.not_st.2.2.2); have HS1 := Lib.hid hS1; have HT1 := Lib.hid hT1; clear hS1 hT1' hT1) | (go_at_call 19; refine (refGet_yes r h zs m k _ HR1.out hk h0 h1).mono ?_; rintro e w2 ⟨rfl, hS2, hT2⟩; have cb2 : w2.cell? ⟨w.heap.size, 1, none⟩ = some (.int .i64 (k : Int)) := (box_keep HLr.out HT1.out.size hT2 1).trans cb; have HS2 := Lib.hid hS2; have HT2 := Lib.hid hT2; clear hS2 hT2))
  go_wp2_with fail
  go_ret
  obtain ⟨b2, t2⟩ := both_on (HB.out.alloc _) HS1.out HT1.out HS2.out HT2.out
  exact ⟨rfl, b2, ((Touch.refl _ w).alloc _).trans t2⟩

set_option maxRecDepth 100000 in
set_option maxHeartbeats 1000000 in
theorem do_put_yes (s g r h : Nat) (zs lz : List Int) (m wd : Int) (k : Nat) (a : Option Addr) (n cap : Nat) (w : World) (hB : Both w s g r h zs m) (hk : k < zs.length) (h0 : 0 ≤ m) (h1 : m < 1000000) :
    Calls Try.prog 10 #[.pointer (some ⟨s, 0, none⟩), .pointer (some ⟨r, 0, none⟩), .agg #[.int .u8 1, .int .i64 (k : Int), .int .u32 wd, .slice a n cap]] w (DoPost w s g r h (zs.set k wd) (m + 1)) := by
  have HB := Lib.hid hB
  have HL := Lib.hid fun k (hk : inSto s g k) => hB.lt (.inl hk)
  have HLr := Lib.hid fun k (hk : inSto r h k) => hB.lt (.inr hk)
  clear hB
  go_enter Try.func10, Try.ntmps10
  go_wp2_with fail
  go_region_held3 (fun w' => w'.cell? ⟨w.heap.size, 1, none⟩ = some (.int .i64 (k : Int)) ∧ w'.cell? ⟨w.heap.size, 2, none⟩ = some (.int .u32 wd)) (first | go_keep | assumption | exact ⟨by assumption, by assumption⟩)
    (first | (go_at_call 17; refine (put_yes s g zs m wd k _ (HB.out.alloc _).drew.st hk h0 h1).mono ?_; rintro e w1 ⟨rfl, hS1, hT1'⟩; have hT1 := hT1'.undrew; have cb : w1.cell? ⟨w.heap.size, 1, none⟩ = some (.int .i64 (k : Int)) := (box_touch HL.out hT1 1).trans (by go_simp); have cd : w1.cell? ⟨w.heap.size, 2, none⟩ = some (.int .u32 wd) := (box_touch HL.out hT1 2).trans (by go_simp); have HR1 := Lib.hid ((HB.out.alloc _).rf.touch hT1 HB.out.not_st.2.2.1 HB.out.not_st.2.2.2); have HS1 := Lib.hid hS1; have HT1 := Lib.hid hT1; clear hS1 hT1' hT1) | (go_at_call 20; refine (refPut_yes r h zs m wd k _ HR1.out hk h0 h1).mono ?_; rintro e w2 ⟨rfl, hS2, hT2⟩; have cb2 : w2.cell? ⟨w.heap.size, 1, none⟩ = some (.int .i64 (k : Int)) := (box_keep HLr.out HT1.out.size hT2 1).trans cb; have cd2 : w2.cell? ⟨w.heap.size, 2, none⟩ = some (.int .u32 wd) := (box_keep HLr.out HT1.out.size hT2 2).trans cd; have HS2 := Lib.hid hS2; have HT2 := Lib.hid hT2; clear hS2 hT2))
  go_wp2_with fail
  go_ret
  obtain ⟨b2, t2⟩ := both_on (HB.out.alloc _) HS1.out HT1.out HS2.out HT2.out
  exact ⟨rfl, b2, ((Touch.refl _ w).alloc _).trans t2⟩

set_option maxRecDepth 100000 in
set_option maxHeartbeats 1000000 in
theorem do_get_no (s g r h : Nat) (zs lz : List Int) (m i wd : Int) (a : Option Addr) (n cap : Nat) (w : World) (hB : Both w s g r h zs m) (hi : i < 0 ∨ (zs.length : Int) ≤ i) :
    Calls Try.prog 10 #[.pointer (some ⟨s, 0, none⟩), .pointer (some ⟨r, 0, none⟩), .agg #[.int .u8 0, .int .i64 i, .int .u32 wd, .slice a n cap]] w (DoPost w s g r h zs m) := by
  have HB := Lib.hid hB
  have HL := Lib.hid fun k (hk : inSto s g k) => hB.lt (.inl hk)
  have HLr := Lib.hid fun k (hk : inSto r h k) => hB.lt (.inr hk)
  clear hB
  have HI := Lib.hid hi
  clear hi
  go_enter Try.func10, Try.ntmps10
  go_wp2_with fail
  go_region_held3 (fun w' => w'.cell? ⟨w.heap.size, 1, none⟩ = some (.int .i64 i)) (first | go_keep | assumption | exact ⟨by assumption, by assumption⟩)
    (first | (go_at_call 18; refine (get_no s g zs m i _ (HB.out.alloc _).drew.st HI.out).mono ?_; rintro e w1 ⟨rfl, rfl⟩) | (go_at_call 19; refine (refGet_no r h zs m i _ (HB.out.alloc _).drew.rf HI.out).mono ?_; rintro e w2 ⟨rfl, rfl⟩))
  go_wp2_with fail
  go_ret
  exact ⟨rfl, (HB.out.alloc _).drew, ((Touch.refl _ w).alloc _).drew⟩

set_option maxRecDepth 100000 in
set_option maxHeartbeats 1000000 in
theorem do_put_no (s g r h : Nat) (zs lz : List Int) (m i wd : Int) (a : Option Addr) (n cap : Nat) (w : World) (hB : Both w s g r h zs m) (hi : i < 0 ∨ (zs.length : Int) ≤ i) :
    Calls Try.prog 10 #[.pointer (some ⟨s, 0, none⟩), .pointer (some ⟨r, 0, none⟩), .agg #[.int .u8 1, .int .i64 i, .int .u32 wd, .slice a n cap]] w (DoPost w s g r h zs m) := by
  have HB := Lib.hid hB
  have HL := Lib.hid fun k (hk : inSto s g k) => hB.lt (.inl hk)
  have HLr := Lib.hid fun k (hk : inSto r h k) => hB.lt (.inr hk)
  clear hB
  have HI := Lib.hid hi
  clear hi
  go_enter Try.func10, Try.ntmps10
  go_wp2_with fail
  go_region_held3 (fun w' => w'.cell? ⟨w.heap.size, 1, none⟩ = some (.int .i64 i) ∧ w'.cell? ⟨w.heap.size, 2, none⟩ = some (.int .u32 wd)) (first | go_keep | assumption | exact ⟨by assumption, by assumption⟩)
    (first | (go_at_call 17; refine (put_no s g zs m i wd _ (HB.out.alloc _).drew.st HI.out).mono ?_; rintro e w1 ⟨rfl, rfl⟩) | (go_at_call 20; refine (refPut_no r h zs m i wd _ (HB.out.alloc _).drew.rf HI.out).mono ?_; rintro e w2 ⟨rfl, rfl⟩))
  go_wp2_with fail
  go_ret
  exact ⟨rfl, (HB.out.alloc _).drew, ((Touch.refl _ w).alloc _).drew⟩

set_option maxRecDepth 100000 in
set_option maxHeartbeats 1000000 in
theorem do_peek_no (s g r h : Nat) (zs lz : List Int) (m i wd : Int) (a : Option Addr) (n cap : Nat) (w : World) (hB : Both w s g r h zs m) (hi : i < 0 ∨ (zs.length : Int) ≤ i) :
    Calls Try.prog 10 #[.pointer (some ⟨s, 0, none⟩), .pointer (some ⟨r, 0, none⟩), .agg #[.int .u8 2, .int .i64 i, .int .u32 wd, .slice a n cap]] w (DoPost w s g r h zs m) := by
  have HB := Lib.hid hB
  have HL := Lib.hid fun k (hk : inSto s g k) => hB.lt (.inl hk)
  have HLr := Lib.hid fun k (hk : inSto r h k) => hB.lt (.inr hk)
  clear hB
  have HI := Lib.hid hi
  clear hi
  go_enter Try.func10, Try.ntmps10
  go_wp2_with fail
  refine (refHas_no r h zs m i _ (HB.out.alloc _).rf HI.out).mono ?_
  rintro e w1 ⟨rfl, rfl⟩
  go_wp2_with fail
  refine (peek_no s g zs m i _ (HB.out.alloc _).st HI.out).mono ?_
  rintro e w1 ⟨rfl, rfl⟩
  go_wp2_with fail
  go_ret
  exact ⟨rfl, HB.out.alloc _, (Touch.refl _ w).alloc _⟩

set_option maxRecDepth 100000 in
set_option maxHeartbeats 1000000 in
theorem do_peek_yes (s g r h : Nat) (zs lz : List Int) (m wd : Int) (k : Nat) (a : Option Addr) (n cap : Nat) (w : World) (hB : Both w s g r h zs m) (hk : k < zs.length) :
    Calls Try.prog 10 #[.pointer (some ⟨s, 0, none⟩), .pointer (some ⟨r, 0, none⟩), .agg #[.int .u8 2, .int .i64 (k : Int), .int .u32 wd, .slice a n cap]] w (DoPost w s g r h zs m) := by
  have i0 : (0 : Int) ≤ (k : Int) := by omega
  have i1 : (k : Int) < (zs.length : Int) := by omega
  have cs := (hB.alloc (.cells #[.int .u8 2, .int .i64 (k : Int), .int .u32 wd, .slice a n cap] 33)).rf.slice
  have cw := (hB.alloc (.cells #[.int .u8 2, .int .i64 (k : Int), .int .u32 wd, .slice a n cap] 33)).rf.word hk
  have HB := Lib.hid hB
  have HL := Lib.hid fun k (hk : inSto s g k) => hB.lt (.inl hk)
  have HLr := Lib.hid fun k (hk : inSto r h k) => hB.lt (.inr hk)
  clear hB
  go_enter Try.func10, Try.ntmps10
  go_wp2_with fail
  refine (refHas_yes r h zs m k _ (HB.out.alloc _).rf hk).mono ?_
  rintro e w1 ⟨rfl, rfl⟩
  go_wp2_with fail
  go_quiet (fail)
  have hb2 : Both ((w.alloc (.cells #[.int .u8 2, .int .i64 (k : Int), .int .u32 wd, .slice a n cap] 33)).drewN nq) s g r h zs m := ⟨⟨(HB.out.alloc _).st.head, (HB.out.alloc _).st.body, HB.out.st.apart⟩, ⟨(HB.out.alloc _).rf.head, (HB.out.alloc _).rf.body, HB.out.rf.apart⟩, HB.out.sr, HB.out.sh, HB.out.gr, HB.out.gh⟩
  have HB2 := Lib.hid hb2
  clear hb2
  go_wp2_with fail
  refine (peek_yes s g zs m k _ HB2.out.st hk).mono ?_
  rintro e w1 ⟨rfl, rfl⟩
  go_wp2_with fail
  go_ret
  exact ⟨rfl, HB2.out, ((Touch.refl _ w).alloc _).drewN _⟩

set_option maxRecDepth 100000 in
set_option maxHeartbeats 1000000 in
theorem do_len (s g r h : Nat) (zs lz : List Int) (m kind i wd : Int) (a : Option Addr) (n cap : Nat) (w : World) (hB : Both w s g r h zs m) (hk : 5 ≤ kind) :
    Calls Try.prog 10 #[.pointer (some ⟨s, 0, none⟩), .pointer (some ⟨r, 0, none⟩), .agg #[.int .u8 kind, .int .i64 i, .int .u32 wd, .slice a n cap]] w (DoPost w s g r h zs m) := by
  have b0 : (kind == 0) = false := bne_of (by omega)
  have b1 : (kind == 1) = false := bne_of (by omega)
  have b2 : (kind == 2) = false := bne_of (by omega)
  have b3 : (kind == 3) = false := bne_of (by omega)
  have b4 : (kind == 4) = false := bne_of (by omega)
  have cs := (hB.alloc (.cells #[.int .u8 kind, .int .i64 i, .int .u32 wd, .slice a n cap] 33)).rf.slice
  have HB := Lib.hid hB
  have HL := Lib.hid fun k (hk : inSto s g k) => hB.lt (.inl hk)
  have HLr := Lib.hid fun k (hk : inSto r h k) => hB.lt (.inr hk)
  clear hB
  clear hk
  go_enter Try.func10, Try.ntmps10
  go_wp2_with fail
  go_region_held3 (fun w' => w'.cell? ⟨r, 0, none⟩ = some (.slice (some ⟨h, 0, none⟩) zs.length zs.length)) (first | go_keep | assumption)
    (first | (go_at_call 14; refine (len_any s g zs m _ (HB.out.alloc _).drew.st).mono ?_; rintro e w1 ⟨rfl, rfl⟩))
  go_wp2_with fail
  go_ret
  exact ⟨rfl, (HB.out.alloc _).drew, ((Touch.refl _ w).alloc _).drew⟩

set_option maxRecDepth 100000 in
set_option maxHeartbeats 1000000 in
theorem do_words (s g r h : Nat) (zs lz : List Int) (m i wd : Int) (a : Option Addr) (n cap : Nat) (w : World) (hB : Both w s g r h zs m) (hn : zs.length ≤ 10000000) :
    Calls Try.prog 10 #[.pointer (some ⟨s, 0, none⟩), .pointer (some ⟨r, 0, none⟩), .agg #[.int .u8 3, .int .i64 i, .int .u32 wd, .slice a n cap]] w (DoPost w s g r h zs m) := by
  have cs := (hB.alloc (.cells #[.int .u8 3, .int .i64 i, .int .u32 wd, .slice a n cap] 33)).rf.slice
  have HB := Lib.hid hB
  have HL := Lib.hid fun k (hk : inSto s g k) => hB.lt (.inl hk)
  have HLr := Lib.hid fun k (hk : inSto r h k) => hB.lt (.inr hk)
  clear hB
  go_enter Try.func10, Try.ntmps10
  go_wp2_with fail
  go_region_held3 (fun w' => w'.cell? ⟨r, 0, none⟩ = some (.slice (some ⟨h, 0, none⟩) zs.length zs.length)) (first | go_keep | assumption)
    (first | (go_at_call 13; refine (words_any s g zs m _ (HB.out.alloc _).drew.st hn).mono ?_; rintro e w1 ⟨q, rfl, hq, hq2, hbw⟩; have HB1 := Lib.hid ((HB.out.alloc _).drew.later hbw); have cs1 := HB1.out.rf.slice; have HQ := Lib.hid (blk_row hq); have HT1 := Lib.hid (((Touch.refl (inBoth s g r h) w).alloc _).trans (Touch.of_below hbw).undrew); clear hq hq2 hbw) | (go_at_call 12; refine (same_yes zs _ _ zs.length _ _ _ rfl HQ.out HB1.out.rf.row (by unfold maxLen; omega)).mono ?_; rintro e w2 ⟨rfl, hd⟩; have HB2 := Lib.hid (HB1.out.drw hd); have cs2 := HB2.out.rf.slice; have HT2 := Lib.hid (HT1.out.trans (Touch.of_drw hd)); clear hd))
  go_wp2_with fail
  go_ret
  exact ⟨rfl, HB2.out, HT2.out⟩

set_option maxRecDepth 100000 in
set_option maxHeartbeats 1000000 in
theorem do_load_ne (s g r h : Nat) (zs lz : List Int) (m i wd : Int) (a : Option Addr) (n cap : Nat) (w : World) (hB : Both w s g r h zs m) (hne : ¬ lz.length = zs.length) (hn : lz.length = n) (hm : n ≤ maxLen) (hm2 : zs.length ≤ maxLen) :
    Calls Try.prog 10 #[.pointer (some ⟨s, 0, none⟩), .pointer (some ⟨r, 0, none⟩), .agg #[.int .u8 4, .int .i64 i, .int .u32 wd, .slice a n cap]] w (DoPost w s g r h zs m) := by
  have cs := (hB.alloc (.cells #[.int .u8 4, .int .i64 i, .int .u32 wd, .slice a n cap] 33)).rf.slice
  have hb : ((n : Int) == (zs.length : Int)) = false := by rw [beq_eq_false_iff_ne]; omega
  have HN := Lib.hid hn
  have HE := Lib.hid hne
  have HM := Lib.hid hm
  have HM2 := Lib.hid hm2
  clear hn hne hm hm2
  have HB := Lib.hid hB
  have HL := Lib.hid fun k (hk : inSto s g k) => hB.lt (.inl hk)
  have HLr := Lib.hid fun k (hk : inSto r h k) => hB.lt (.inr hk)
  clear hB
  go_enter Try.func10, Try.ntmps10
  go_wp2_with fail
  go_quiet (fail)
  have hb2 : Both ((w.alloc (.cells #[.int .u8 4, .int .i64 i, .int .u32 wd, .slice a n cap] 33)).drewN nq) s g r h zs m := (HB.out.alloc _).later (Drw.refl _ |>.step nq).new
  have HB2 := Lib.hid hb2
  clear hb2
  go_wp2_with fail
  refine (load_noN s g n zs lz m a cap _ HB2.out.st HN.out HE.out HM.out HM2.out).mono ?_
  rintro e w1 ⟨rfl, rfl⟩
  go_wp2_with fail
  go_ret
  exact ⟨rfl, HB2.out, ((Touch.refl _ w).alloc _).drewN _⟩

set_option maxRecDepth 100000 in
set_option maxHeartbeats 1000000 in
theorem do_load_eq (s g r h : Nat) (zs lz : List Int) (m i wd : Int) (a : Option Addr) (n cap : Nat) (w : World) (hB : Both w s g r h zs m) (hn : lz.length = n) (hn2 : zs.length = n) (hrow : Row w .u32 a lz) (hout : RowOut (inBoth s g r h) a lz) :
    Calls Try.prog 10 #[.pointer (some ⟨s, 0, none⟩), .pointer (some ⟨r, 0, none⟩), .agg #[.int .u8 4, .int .i64 i, .int .u32 wd, .slice a n cap]] w (DoPost w s g r h lz m) := by
  have cs := (hB.alloc (.cells #[.int .u8 4, .int .i64 i, .int .u32 wd, .slice a n cap] 33)).rf.slice
  rw [hn2] at cs
  have HN := Lib.hid hn
  have HN2 := Lib.hid hn2
  have HR := Lib.hid hrow
  have HO := Lib.hid hout
  clear hn hn2 hrow hout
  have HB := Lib.hid hB
  have HL := Lib.hid fun k (hk : inSto s g k) => hB.lt (.inl hk)
  have HLr := Lib.hid fun k (hk : inSto r h k) => hB.lt (.inr hk)
  clear hB
  go_enter Try.func10, Try.ntmps10
  go_wp2_with fail
  go_quiet (fail)
  have hd : Drw (w.alloc (.cells #[.int .u8 4, .int .i64 i, .int .u32 wd, .slice a n cap] 33)) ((w.alloc (.cells #[.int .u8 4, .int .i64 i, .int .u32 wd, .slice a n cap] 33)).drewN nq) := ⟨nq, rfl⟩
  have cb2 : ((w.alloc (.cells #[.int .u8 4, .int .i64 i, .int .u32 wd, .slice a n cap] 33)).drewN nq).cell? ⟨w.heap.size, 3, none⟩ = some (.slice a n cap) := by go_simp
  have cs2 : ((w.alloc (.cells #[.int .u8 4, .int .i64 i, .int .u32 wd, .slice a n cap] 33)).drewN nq).cell? ⟨r, 0, none⟩ = some (.slice (some ⟨h, 0, none⟩) n n) := cs
  have hz2 : w.heap.size < ((w.alloc (.cells #[.int .u8 4, .int .i64 i, .int .u32 wd, .slice a n cap] 33)).drewN nq).heap.size := by show _ < (w.alloc _).heap.size; simp
  have HB2 := Lib.hid ((HB.out.alloc (.cells #[.int .u8 4, .int .i64 i, .int .u32 wd, .slice a n cap] 33)).drw hd)
  have HT2 := Lib.hid (((Touch.refl (inBoth s g r h) w).alloc (.cells #[.int .u8 4, .int .i64 i, .int .u32 wd, .slice a n cap] 33)).trans (Touch.of_drw hd))
  have HR2 := Lib.hid ((HR.out.alloc (.cells #[.int .u8 4, .int .i64 i, .int .u32 wd, .slice a n cap] 33)).drw hd)
  have hbh : ¬ w.heap.size = h := fun e => Nat.lt_irrefl _ (e ▸ HLr.out h (.inr rfl))
  have hrh : ¬ r = h := HB.out.rf.apart
  clear hd cs
  generalize (w.alloc (.cells #[.int .u8 4, .int .i64 i, .int .u32 wd, .slice a n cap] 33)).drewN nq = w2 at *
  go_wp2_with fail
  go_region_held3 (fun w' => w'.cell? ⟨w.heap.size, 3, none⟩ = some (.slice a n cap) ∧ w'.cell? ⟨r, 0, none⟩ = some (.slice (some ⟨h, 0, none⟩) n n)) (first | exact ⟨by assumption, by assumption⟩ | go_keep)
    ((refine step_copy_full rfl (.tmp 81) (.tmp 83) 31 31 rfl 30 Try.underlying31 sizeU32 h n n a cap 30 zs lz rfl rfl HB2.out.rf.body.drew HN2.out HN.out (HR2.out.drw (Drw.refl _ |>.step 1)) ?_; intro w4 hB4 hT4'; have hT4 := hT4'.undrew; have cb4 : w4.cell? ⟨w.heap.size, 3, none⟩ = some (.slice a n cap) := (hT4.cell (p := ⟨w.heap.size, 3, none⟩) hz2 hbh).trans cb2; have cs4 : w4.cell? ⟨r, 0, none⟩ = some (.slice (some ⟨h, 0, none⟩) n n) := (hT4.cell (p := ⟨r, 0, none⟩) HB2.out.rf.head.lt hrh).trans cs2; have HB4 := Lib.hid hB4; have HT4 := Lib.hid hT4; clear hB4 hT4 hT4'))
  have HS4 := Lib.hid (HB2.out.st.touch HT4.out HB.out.sh HB.out.gh)
  have HR4 := Lib.hid (HR2.out.touch HT4.out (HO.out.mono fun k hk => .inr (.inr hk)))
  have hd4 : Sto w4 38 30 r h lz m := ⟨by rw [HN.out]; have := HB2.out.rf.head.touch HT4.out hrh; rw [HN2.out] at this; exact this, HB4.out, hrh⟩
  have HD4 := Lib.hid hd4
  clear hd4
  go_wp2_with fail
  refine (load_yes s g n zs lz m a cap _ HS4.out HN.out HN2.out HR4.out).mono ?_
  rintro e w5 ⟨rfl, hS5, hT5⟩
  have HS5 := Lib.hid hS5
  have HT5 := Lib.hid hT5
  clear hS5 hT5
  go_wp2_with fail
  go_ret
  exact ⟨rfl, ⟨HS5.out, HD4.out.touch HT5.out HB.out.not_st.2.2.1 HB.out.not_st.2.2.2, HB.out.sr, HB.out.sh, HB.out.gr, HB.out.gh⟩,
    (HT2.out.trans (HT4.out.mono fun k _ hk => .inr (.inr hk))).trans (HT5.out.mono fun k _ hk => .inl hk)⟩

end Go.Proofs.Ytpnjanidkphkcaa.Pk
