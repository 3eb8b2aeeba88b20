/-
  Texts laid together: PoolDo, PoolBegun, WRep, RingDo, RingDo2.
-/
import Derived.Test.YtbhhfnlkpieebaaGreatChainsEtc
import Derived.Test.YtbhhfnlkpieebaaGreatBaseEtc
import Derived.Deep.RegionHeld3
import Derived.BigQuiet
import Derived.Test.YtbhhfnlkpieebaaGreatTameEtc
namespace Go.Proofs.YtbhhfnlkpieebaaGreat.Pk
open Lib (hid)
open Go.RowKit
set_option linter.unusedVariables false
set_option linter.unusedSimpArgs false
structure SI (w : World) (p : Pl) (c : Cf) (s : St) (l : List Nat) (a : Option Addr) : Prop where
 gr : G w p c s
 pool : dm c s.zs l
 r : Row w .i64 a (ints l)
 o : nI (ak p) a (ints l)
 hN : c.N ≤ 5000
theorem SI.hl {w : World} {p : Pl} {c : Cf} {s : St} {l : List Nat} {a : Option Addr} (h : SI w p c s l a) : l.length ≤ 5000 := Nat.le_trans (cz h.pool.ch.nd h.pool.ch.lt) h.hN
set_option maxHeartbeats 400000 in
theorem DK (n : Nat) (w : World) (hn : n ≤ 10000) :
   Calls Tryz.prog 181 #[.int .i64 (n : Int)] w (eX (List.range n) w) := by
 obtain ⟨i0, hi, hz0, hz1, hz2⟩ := info_parts jf
 go_enter Tryz.func181, Tryz.ntmps181
 go_wp2
 go_loopw [3, 4] (fun v i wr => ∃ k : Nat, k ≤ n ∧ i = .int .i64 k ∧ gD w v k (ints (List.range k)) wr) (fun _ i _ => n - (intOf i).toNat)
 case atStart => exact ⟨0, Nat.zero_le _, rfl, World.ownsRow_nil _ _ _ _, Below.refl _ _⟩
 case round =>
   obtain ⟨k, hk, rfl, hown, hbel⟩ := hrel
   have hsz := hbel.size
   by_cases hlt : k < n
   · have HT : Hid (ints (List.range (k + 1)) = ints (List.range k) ++ [(k : Int)]) := hid (by rw [List.range_succ]; simp [ints])
     go_wp2_with (at_builtin; refine wpList_append_own _ rfl _ _ 39 rfl w.heap.size 3 i0 (.int .i64 0) 1 8 Tryz.underlying39 hi hz0 hz1 hz2 rfl (by decide) _ _ _ rfl (hown.alloc _) ⟨wr.heap.size, 0, none⟩ 1 1 [.int .i64 (k : Int)] rfl rfl ?c1 ?c2 ?c3 ?c4 ?c5 ?c6)
     case c1 => exact cell_one_new wr _ _
     case c2 => intro u hu; simp at hu; subst hu; rfl
     case c3 => unfold maxLen; omega
     case c4 => omega
     case c5 => simp; omega
     case c6 =>
       intro v' w1 hown' hgrow _
       have hbel1 : Below w.heap.size w w1 := (hbel.alloc hsz _).grown hgrow (by simp; omega) (aP hown)
       have HG : Hid (gD w v' (k + 1) (ints (List.range (k + 1))) w1) := hid (by
         refine ⟨?_, hbel1⟩
         rw [HT.out]
         simpa using hown')
       clear hown' hgrow hbel1 hown hbel
       go_wp2
       go_roundw
       case rel => exact ⟨k + 1, by omega, by go_num, HG.out⟩
       case measure => simp [intOf]; omega
   · have e : k = n := by omega
     have HO : Hid (eX (List.range n) w (.returned u3) wr) := hid (by
       have h1 : gD w u3 k (ints (List.range k)) wr := ⟨hown, hbel⟩
       have := (dG.mk (by simp [ints]) h1).Ji rfl
       rwa [e] at this)
     clear e hown hbel
     go_wp2
     go_ret
     exact HO.out
structure TA where
 tb : Nat
 mb : Nat
 la : Option Addr
 pa : Option Addr
 da : Option Addr
 lc : Nat
 pc : Nat
 dc : Nat
def TA.JF (x : TA) : Value := .pointer (some ⟨x.tb, 0, none⟩)
def TA.Lp (x : TA) : Value := .pointer (some ⟨x.mb, 0, none⟩)
structure WA where
 q : Nat
 hb : Nat
 tv : Value
 mv : Value
 ca : Option Addr
 ra : Option Addr
 ga : Option Addr
 cc : Nat
 rc : Nat
 gc : Nat
 tas : List TA
def Th.cells (t : Th) (x : TA) : Array Value := #[.int .i64 (t.h : Int), .slice x.la t.lv.length x.lc, .slice x.pa t.pt.length x.pc, .slice x.da t.dt.length x.dc, .bool t.ended]
def cO.cells (m : cO) : Array Value := #[.int .i64 m.refs, .int .i64 m.color, .int .i64 m.count, .int .i64 m.shade, .int .i64 m.shadow, .bool m.dead, .int .i64 m.left, .int .i64 m.leaves]
def Wd.cells (D : Wd) (a : WA) : Array Value := #[.pointer (some ⟨a.hb, 0, none⟩), a.mv, .int .i64 D.parity, .int .i64 D.phase, .int .i64 D.cursor, .int .i64 D.field, .int .i64 D.scan, .int .i64 D.scanF, .int .i64 D.suspect, .int .i64 D.units, .int .i64 D.epochs, .slice a.ra D.ring.length a.rc, .slice a.ga D.grave.length a.gc, .int .i64 D.pending]
def hcells (n v : Nat) (cl : List Nat) (a : WA) : Array Value := #[.int .i64 (n : Int), .int .i64 (v : Int), .slice a.ca cl.length a.cc, a.tv]
def qO (w : World) (lo : Nat) (lab : Nat → Nat) (a : Option Addr) (n k : Nat) : Prop := 0 < n → ∀ b off, a = some ⟨b, off, none⟩ → lo ≤ b ∧ b < w.heap.size ∧ lab b = k
theorem qO.nil (w : World) (lo : Nat) (lab : Nat → Nat) (n k : Nat) : qO w lo lab none n k := fun _ b off h => by cases h
theorem qO.le {w w' : World} {lo : Nat} {lab : Nat → Nat} {a : Option Addr} {n k : Nat} (h : qO w lo lab a n k) (hs : w.heap.size ≤ w'.heap.size) : qO w' lo lab a n k := fun h0 b off e => by
 obtain ⟨h1, h2, h3⟩ := h h0 b off e
 exact ⟨h1, by omega, h3⟩
theorem qO.re {w : World} {lo : Nat} {lab lab' : Nat → Nat} {a : Option Addr} {n k : Nat} (h : qO w lo lab a n k) (hl : ∀ b, b < w.heap.size → lab' b = lab b) : qO w lo lab' a n k := fun h0 b off e => by
 obtain ⟨h1, h2, h3⟩ := h h0 b off e
 exact ⟨h1, h2, by rw [hl b h2]; exact h3⟩
structure BJ (w : World) (lo : Nat) (lab : Nat → Nat) (i : Nat) (t : Th) (x : TA) : Prop where
 tb : aU w x.tb (t.cells x) 84
 lv : dY w .i64 x.la t.lv
 pt : dY w .i64 x.pa t.pt
 dt : dY w .u32 x.da t.dt
 ltb : lo ≤ x.tb ∧ lab x.tb = 7 + 5 * i
 lla : qO w lo lab x.la t.lv.length (9 + 5 * i)
 lpa : qO w lo lab x.pa t.pt.length (10 + 5 * i)
 lda : qO w lo lab x.da t.dt.length (11 + 5 * i)
structure nG (w : World) (lo : Nat) (lab : Nat → Nat) (a : WA) (n v : Nat) (cl : List Nat) (ts : List Th) : Prop where
 hb : aU w a.hb (hcells n v cl a) 92
 lh : lo ≤ a.hb ∧ lab a.hb = 1
 len : a.tas.length = ts.length
 tv : w.ownsRow lo 85 1 a.tv ts.length (a.tas.map TA.JF)
 ltv : ∀ g, a.tv.ownBlock = some g → g < w.heap.size ∧ lab g = 2
 th : ∀ (i : Nat) t x, ts[i]? = some t → a.tas[i]? = some x → BJ w lo lab i t x
 crow : Row w .i64 a.ca (ints cl)
 lca : qO w lo lab a.ca cl.length 4
 bd : ∀ t, t ∈ ts → t.h < 1000000
structure aF (w : World) (lo : Nat) (lab : Nat → Nat) (a : WA) (D : Wd) : Prop where
 h : nG w lo lab a D.n D.w D.clean D.ts
 wb : aU w a.q (D.cells a) 41
 lq : lo ≤ a.q ∧ lab a.q = 0
 mv : w.ownsRow lo 104 1 a.mv D.ts.length (a.tas.map TA.Lp)
 lmv : ∀ g, a.mv.ownBlock = some g → g < w.heap.size ∧ lab g = 3
 mb : ∀ (i : Nat) t x, D.ts[i]? = some t → a.tas[i]? = some x → aU w x.mb t.mr.cells 107 ∧ lo ≤ x.mb ∧ lab x.mb = 8 + 5 * i
 rg : Row w .i64 a.ra (ints D.ring)
 lra : qO w lo lab a.ra D.ring.length 5
 gv : Row w .i64 a.ga (ints D.grave)
 lga : qO w lo lab a.ga D.grave.length 6
section
variable {w w' : World} {lo : Nat} {lab lab' : Nat → Nat} {a : WA} {D : Wd} {X : Nat → Prop} {i n v : Nat} {t : Th} {x : TA} {cl : List Nat} {ts : List Th}
theorem aF.c0 (h : aF w lo lab a D) : w.cell? ⟨a.q, 0, none⟩ = some (.pointer (some ⟨a.hb, 0, none⟩)) := h.wb.cell 0 rfl
theorem aF.c1 (h : aF w lo lab a D) : w.cell? ⟨a.q, 1, none⟩ = some (a.mv) := h.wb.cell 1 rfl
theorem aF.c2 (h : aF w lo lab a D) : w.cell? ⟨a.q, 2, none⟩ = some (.int .i64 D.parity) := h.wb.cell 2 rfl
theorem aF.c3 (h : aF w lo lab a D) : w.cell? ⟨a.q, 3, none⟩ = some (.int .i64 D.phase) := h.wb.cell 3 rfl
theorem aF.c4 (h : aF w lo lab a D) : w.cell? ⟨a.q, 4, none⟩ = some (.int .i64 D.cursor) := h.wb.cell 4 rfl
theorem aF.c5 (h : aF w lo lab a D) : w.cell? ⟨a.q, 5, none⟩ = some (.int .i64 D.field) := h.wb.cell 5 rfl
theorem aF.c6 (h : aF w lo lab a D) : w.cell? ⟨a.q, 6, none⟩ = some (.int .i64 D.scan) := h.wb.cell 6 rfl
theorem aF.c7 (h : aF w lo lab a D) : w.cell? ⟨a.q, 7, none⟩ = some (.int .i64 D.scanF) := h.wb.cell 7 rfl
theorem aF.c8 (h : aF w lo lab a D) : w.cell? ⟨a.q, 8, none⟩ = some (.int .i64 D.suspect) := h.wb.cell 8 rfl
theorem aF.c11 (h : aF w lo lab a D) : w.cell? ⟨a.q, 11, none⟩ = some (.slice a.ra D.ring.length a.rc) := h.wb.cell 11 rfl
theorem aF.c12 (h : aF w lo lab a D) : w.cell? ⟨a.q, 12, none⟩ = some (.slice a.ga D.grave.length a.gc) := h.wb.cell 12 rfl
theorem aF.c13 (h : aF w lo lab a D) : w.cell? ⟨a.q, 13, none⟩ = some (.int .i64 D.pending) := h.wb.cell 13 rfl
theorem nG.c1 (h : nG w lo lab a n v cl ts) : w.cell? ⟨a.hb, 1, none⟩ = some (.int .i64 (v : Int)) := h.hb.cell 1 rfl
theorem nG.c2 (h : nG w lo lab a n v cl ts) : w.cell? ⟨a.hb, 2, none⟩ = some (.slice a.ca cl.length a.cc) := h.hb.cell 2 rfl
theorem nG.c3 (h : nG w lo lab a n v cl ts) : w.cell? ⟨a.hb, 3, none⟩ = some (a.tv) := h.hb.cell 3 rfl
theorem BJ.c0 (h : BJ w lo lab i t x) : w.cell? ⟨x.tb, 0, none⟩ = some (.int .i64 (t.h : Int)) := h.tb.cell 0 rfl
theorem BJ.c1 (h : BJ w lo lab i t x) : w.cell? ⟨x.tb, 1, none⟩ = some (.slice x.la t.lv.length x.lc) := h.tb.cell 1 rfl
theorem BJ.c2 (h : BJ w lo lab i t x) : w.cell? ⟨x.tb, 2, none⟩ = some (.slice x.pa t.pt.length x.pc) := h.tb.cell 2 rfl
theorem BJ.c3 (h : BJ w lo lab i t x) : w.cell? ⟨x.tb, 3, none⟩ = some (.slice x.da t.dt.length x.dc) := h.tb.cell 3 rfl
theorem BJ.c4 (h : BJ w lo lab i t x) : w.cell? ⟨x.tb, 4, none⟩ = some (.bool t.ended) := h.tb.cell 4 rfl
theorem aF.m0 (h : aF w lo lab a D) (ht : D.ts[i]? = some t) (hx : a.tas[i]? = some x) : w.cell? ⟨x.mb, 0, none⟩ = some (.int .i64 t.mr.refs) := (h.mb i t x ht hx).1.cell 0 rfl
theorem aF.m1 (h : aF w lo lab a D) (ht : D.ts[i]? = some t) (hx : a.tas[i]? = some x) : w.cell? ⟨x.mb, 1, none⟩ = some (.int .i64 t.mr.color) := (h.mb i t x ht hx).1.cell 1 rfl
theorem aF.m2 (h : aF w lo lab a D) (ht : D.ts[i]? = some t) (hx : a.tas[i]? = some x) : w.cell? ⟨x.mb, 2, none⟩ = some (.int .i64 t.mr.count) := (h.mb i t x ht hx).1.cell 2 rfl
theorem aF.m3 (h : aF w lo lab a D) (ht : D.ts[i]? = some t) (hx : a.tas[i]? = some x) : w.cell? ⟨x.mb, 3, none⟩ = some (.int .i64 t.mr.shade) := (h.mb i t x ht hx).1.cell 3 rfl
theorem aF.m4 (h : aF w lo lab a D) (ht : D.ts[i]? = some t) (hx : a.tas[i]? = some x) : w.cell? ⟨x.mb, 4, none⟩ = some (.int .i64 t.mr.shadow) := (h.mb i t x ht hx).1.cell 4 rfl
theorem aF.m5 (h : aF w lo lab a D) (ht : D.ts[i]? = some t) (hx : a.tas[i]? = some x) : w.cell? ⟨x.mb, 5, none⟩ = some (.bool t.mr.dead) := (h.mb i t x ht hx).1.cell 5 rfl
theorem aF.m6 (h : aF w lo lab a D) (ht : D.ts[i]? = some t) (hx : a.tas[i]? = some x) : w.cell? ⟨x.mb, 6, none⟩ = some (.int .i64 t.mr.left) := (h.mb i t x ht hx).1.cell 6 rfl
theorem aF.m7 (h : aF w lo lab a D) (ht : D.ts[i]? = some t) (hx : a.tas[i]? = some x) : w.cell? ⟨x.mb, 7, none⟩ = some (.int .i64 t.mr.leaves) := (h.mb i t x ht hx).1.cell 7 rfl
theorem qO.out {o : Option Addr} {m k : Nat} {zs : List Int} (h : qO w lo lab o m k) (hX : ∀ b, lo ≤ b → b < w.heap.size → lab b = k → ¬ X b) (hm : zs.length = m := by simp [ints]) : nI X o zs := fun h0 b off e => by
 obtain ⟨h1, h2, h3⟩ := h (by omega) b off e
 exact hX b h1 h2 h3
theorem bN {e : TypeId} {size m : Nat} {u : Value} {xs : List Value} (h : w.ownsRow lo e size u m xs) (T : Touch X w w') (hx : ∀ g, u.ownBlock = some g → ¬ X g) : w'.ownsRow lo e size u m xs := by
 refine ⟨h.1, ?_⟩
 rcases h.2 with h0 | ⟨g, cap, cur, rfl, hb, hg, r⟩
 · exact .inl h0
 · exact .inr ⟨g, cap, cur, rfl, hb, (T.block g (lt_of_block hg) (hx g rfl)).trans hg, r⟩
theorem BJ.touch (h : BJ w lo lab i t x) (T : Touch X w w') (hX : ∀ b, lo ≤ b → b < w.heap.size → (lab b = 7 + 5 * i ∨ lab b = 9 + 5 * i ∨ lab b = 10 + 5 * i ∨ lab b = 11 + 5 * i) → ¬ X b) : BJ w' lo lab i t x where
 tb := h.tb.touch T (hX _ h.ltb.1 h.tb.lt (.inl h.ltb.2))
 lv := h.lv.touch T (h.lla.out (fun b h1 h2 h3 => hX b h1 h2 (.inr (.inl h3))))
 pt := h.pt.touch T (h.lpa.out (fun b h1 h2 h3 => hX b h1 h2 (.inr (.inr (.inl h3)))))
 dt := h.dt.touch T (h.lda.out (fun b h1 h2 h3 => hX b h1 h2 (.inr (.inr (.inr h3)))))
 ltb := h.ltb
 lla := h.lla.le T.size
 lpa := h.lpa.le T.size
 lda := h.lda.le T.size
theorem nG.touch (h : nG w lo lab a n v cl ts) (T : Touch X w w') (hX : ∀ b, lo ≤ b → b < w.heap.size → (lab b = 1 ∨ lab b = 2 ∨ lab b = 4 ∨ ∃ i, i < ts.length ∧ (lab b = 7 + 5 * i ∨ lab b = 9 + 5 * i ∨ lab b = 10 + 5 * i ∨ lab b = 11 + 5 * i)) → ¬ X b) : nG w' lo lab a n v cl ts where
 hb := h.hb.touch T (hX _ h.lh.1 h.hb.lt (.inl h.lh.2))
 lh := h.lh
 len := h.len
 tv := bN h.tv T (fun g hg => hX g (aP h.tv g hg) (h.ltv g hg).1 (.inr (.inl (h.ltv g hg).2)))
 ltv := fun g hg => ⟨Nat.lt_of_lt_of_le (h.ltv g hg).1 T.size, (h.ltv g hg).2⟩
 th := fun i t x h1 h2 => (h.th i t x h1 h2).touch T (fun b b1 b2 b3 => hX b b1 b2 (.inr (.inr (.inr ⟨i, (List.getElem?_eq_some_iff.1 h1).1, b3⟩))))
 crow := h.crow.touch T (h.lca.out (fun b h1 h2 h3 => hX b h1 h2 (.inr (.inr (.inl h3)))))
 lca := h.lca.le T.size
 bd := h.bd
theorem aF.touch (h : aF w lo lab a D) (T : Touch X w w') (hX : ∀ b, lo ≤ b → b < w.heap.size → ¬ X b) : aF w' lo lab a D where
 h := h.h.touch T (fun b h1 h2 _ => hX b h1 h2)
 wb := h.wb.touch T (hX _ h.lq.1 h.wb.lt)
 lq := h.lq
 mv := bN h.mv T (fun g hg => hX g (aP h.mv g hg) (h.lmv g hg).1)
 lmv := fun g hg => ⟨Nat.lt_of_lt_of_le (h.lmv g hg).1 T.size, (h.lmv g hg).2⟩
 mb := fun i t x h1 h2 => ⟨(h.mb i t x h1 h2).1.touch T (hX _ (h.mb i t x h1 h2).2.1 (h.mb i t x h1 h2).1.lt), (h.mb i t x h1 h2).2⟩
 rg := h.rg.touch T (h.lra.out (fun b h1 h2 _ => hX b h1 h2))
 lra := h.lra.le T.size
 gv := h.gv.touch T (h.lga.out (fun b h1 h2 _ => hX b h1 h2))
 lga := h.lga.le T.size
theorem aF.later (h : aF w lo lab a D) (hb : Below w.heap.size w w') : aF w' lo lab a D := h.touch (X := fun _ => False) (Touch.of_below hb) (fun _ _ _ => id)
theorem aF.gy (h : aF w lo lab a D) (d : fe w w') : aF w' lo lab a D := h.later d.new
def fo (lo : Nat) (lab : Nat → Nat) (K : Nat) (w w' : World) : Prop := Touch (fun b => lo ≤ b ∧ b < w.heap.size ∧ lab b = K) w w'
theorem fo.cell {K b k : Nat} (h0 : lo ≤ b) (hl : lab b = K) (u : Value) : fo lo lab K w (w.setCell ⟨b, k, none⟩ u) := (Touch.refl _ _).setCell (fun h => ⟨h0, h, hl⟩) u
theorem aF.ol (h : aF w lo lab a D) (ht : D.ts[i]? = some t) (hx : a.tas[i]? = some x) {k : Nat} {u : Value} {m : cO} (e : t.mr.cells.setIfInBounds k u = m.cells) :
   aF (w.setCell ⟨x.mb, k, none⟩ u) lo lab a { D with ts := D.ts.set i { t with mr := m } } := by
 obtain ⟨hB, hlo, hl⟩ := h.mb i t x ht hx
 have T : fo lo lab (8 + 5 * i) w (w.setCell ⟨x.mb, k, none⟩ u) := fo.cell hlo hl u
 have hi := (List.getElem?_eq_some_iff.1 ht).1
 have hsz : (w.setCell ⟨x.mb, k, none⟩ u).heap.size = w.heap.size := by simp
 have H := h.h.touch T (fun b _ _ h3 h4 => by have := h4.2.2; omega)
 refine ⟨⟨H.hb, H.lh, by simpa using H.len, by simpa using H.tv, H.ltv, fun j s y hs hy => ?_, H.crow, H.lca, fun s hs => by
     rcases List.mem_or_eq_of_mem_set hs with g | rfl
     · exact h.h.bd s g
     · exact h.h.bd t (List.mem_of_getElem? ht)⟩, h.wb.touch T (fun h4 => by have := h4.2.2; have := h.lq.2; omega), h.lq, by simpa using bN h.mv T (fun g hg h4 => by have := h4.2.2; have := (h.lmv g hg).2; omega), fun g hg => ⟨by rw [hsz]; exact (h.lmv g hg).1, (h.lmv g hg).2⟩, fun j s y hs hy => ?_, h.rg.touch T (h.lra.out (fun b _ _ h3 h4 => by have := h4.2.2; omega)), h.lra.le T.size, h.gv.touch T (h.lga.out (fun b _ _ h3 h4 => by have := h4.2.2; omega)), h.lga.le T.size⟩
 · by_cases hj : j = i
   · subst hj
     simp [hi] at hs
     subst hs
     have := H.th j t x ht hx
     rw [hx] at hy
     cases hy
     exact ⟨this.tb, this.lv, this.pt, this.dt, this.ltb, this.lla, this.lpa, this.lda⟩
   · rw [List.getElem?_set_ne (Ne.symm hj)] at hs
     exact H.th j s y hs hy
 · by_cases hj : j = i
   · subst hj
     simp [hi] at hs
     subst hs
     rw [hx] at hy
     cases hy
     exact ⟨hB.put k u e, hlo, hl⟩
   · rw [List.getElem?_set_ne (Ne.symm hj)] at hs
     obtain ⟨g1, g2, g3⟩ := h.mb j s y hs hy
     exact ⟨g1.touch T (fun h4 => by have := h4.2.2; omega), g2, g3⟩
theorem aF.iq (h : aF w lo lab a D) {D' : Wd} {k : Nat} {u : Value} (e : (D.cells a).setIfInBounds k u = D'.cells a) (hn : D'.n = D.n) (hv : D'.w = D.w) (hc : D'.clean = D.clean) (ht : D'.ts = D.ts) (hr : D'.ring = D.ring) (hg : D'.grave = D.grave) :
   aF (w.setCell ⟨a.q, k, none⟩ u) lo lab a D' := by
 have T : fo lo lab 0 w (w.setCell ⟨a.q, k, none⟩ u) := fo.cell h.lq.1 h.lq.2 u
 have H := h.h.touch T (fun b _ _ h3 h4 => by have := h4.2.2; omega)
 have hsz : (w.setCell ⟨a.q, k, none⟩ u).heap.size = w.heap.size := by simp
 refine ⟨by rw [hn, hv, hc, ht]; exact H, h.wb.put k u e, h.lq, by rw [ht]; exact bN h.mv T (fun g hg h4 => by have := h4.2.2; have := (h.lmv g hg).2; omega), fun g hg => ⟨by rw [hsz]; exact (h.lmv g hg).1, (h.lmv g hg).2⟩, fun j s y hs hy => ?_, by rw [hr]; exact h.rg.touch T (h.lra.out (fun b _ _ h3 h4 => by have := h4.2.2; omega)), by rw [hr]; exact h.lra.le T.size, by rw [hg]; exact h.gv.touch T (h.lga.out (fun b _ _ h3 h4 => by have := h4.2.2; omega)), by rw [hg]; exact h.lga.le T.size⟩
 rw [ht] at hs
 obtain ⟨g1, g2, g3⟩ := h.mb j s y hs hy
 exact ⟨g1.touch T (fun h4 => by have := h4.2.2; omega), g2, g3⟩
theorem BJ.re (h : BJ w lo lab i t x) (hl : ∀ b, b < w.heap.size → lab' b = lab b) : BJ w lo lab' i t x :=
 ⟨h.tb, h.lv, h.pt, h.dt, ⟨h.ltb.1, by rw [hl _ h.tb.lt]; exact h.ltb.2⟩, h.lla.re hl, h.lpa.re hl, h.lda.re hl⟩
theorem nG.re (h : nG w lo lab a n v cl ts) (hl : ∀ b, b < w.heap.size → lab' b = lab b) : nG w lo lab' a n v cl ts :=
 ⟨h.hb, ⟨h.lh.1, by rw [hl _ h.hb.lt]; exact h.lh.2⟩, h.len, h.tv, fun g hg => ⟨(h.ltv g hg).1, by rw [hl g (h.ltv g hg).1]; exact (h.ltv g hg).2⟩, fun i t x h1 h2 => (h.th i t x h1 h2).re hl, h.crow, h.lca.re hl, h.bd⟩
theorem aF.re (h : aF w lo lab a D) (hl : ∀ b, b < w.heap.size → lab' b = lab b) : aF w lo lab' a D :=
 ⟨h.h.re hl, h.wb, ⟨h.lq.1, by rw [hl _ h.wb.lt]; exact h.lq.2⟩, h.mv, fun g hg => ⟨(h.lmv g hg).1, by rw [hl g (h.lmv g hg).1]; exact (h.lmv g hg).2⟩, fun i t x h1 h2 => by
   obtain ⟨g1, g2, g3⟩ := h.mb i t x h1 h2
   exact ⟨g1, g2, by rw [hl _ g1.lt]; exact g3⟩, h.rg, h.lra.re hl, h.gv, h.lga.re hl⟩
theorem aF.Oy (h : aF w lo lab a D) {ra : Option Addr} {rc : Nat} {l : List Nat} (hr : Row w .i64 ra (ints l)) (hL : qO w lo lab ra l.length 5) :
   aF (w.setCell ⟨a.q, 11, none⟩ (.slice ra l.length rc)) lo lab { a with ra := ra, rc := rc } { D with ring := l } := by
 have T : fo lo lab 0 w (w.setCell ⟨a.q, 11, none⟩ (.slice ra l.length rc)) := fo.cell h.lq.1 h.lq.2 _
 have H := h.h.touch T (fun b _ _ h3 h4 => by have := h4.2.2; omega)
 have hsz : (w.setCell ⟨a.q, 11, none⟩ (.slice ra l.length rc)).heap.size = w.heap.size := by simp
 refine ⟨⟨H.hb, H.lh, H.len, H.tv, H.ltv, H.th, H.crow, H.lca, H.bd⟩, h.wb.put 11 _ rfl, h.lq, bN h.mv T (fun g hg h4 => by have := h4.2.2; have := (h.lmv g hg).2; omega), fun g hg => ⟨by rw [hsz]; exact (h.lmv g hg).1, (h.lmv g hg).2⟩, fun j s y hs hy => ?_, hr.touch T (hL.out (fun b _ _ h3 h4 => by have := h4.2.2; omega)), hL.le T.size, h.gv.touch T (h.lga.out (fun b _ _ h3 h4 => by have := h4.2.2; omega)), h.lga.le T.size⟩
 obtain ⟨g1, g2, g3⟩ := h.mb j s y hs hy
 exact ⟨g1.touch T (fun h4 => by have := h4.2.2; omega), g2, g3⟩
theorem aF.Mj (h : aF w lo lab a D) {ga : Option Addr} {gc : Nat} {l : List Nat} (hr : Row w .i64 ga (ints l)) (hL : qO w lo lab ga l.length 6) :
   aF (w.setCell ⟨a.q, 12, none⟩ (.slice ga l.length gc)) lo lab { a with ga := ga, gc := gc } { D with grave := l } := by
 have T : fo lo lab 0 w (w.setCell ⟨a.q, 12, none⟩ (.slice ga l.length gc)) := fo.cell h.lq.1 h.lq.2 _
 have H := h.h.touch T (fun b _ _ h3 h4 => by have := h4.2.2; omega)
 have hsz : (w.setCell ⟨a.q, 12, none⟩ (.slice ga l.length gc)).heap.size = w.heap.size := by simp
 refine ⟨⟨H.hb, H.lh, H.len, H.tv, H.ltv, H.th, H.crow, H.lca, H.bd⟩, h.wb.put 12 _ rfl, h.lq, bN h.mv T (fun g hg h4 => by have := h4.2.2; have := (h.lmv g hg).2; omega), fun g hg => ⟨by rw [hsz]; exact (h.lmv g hg).1, (h.lmv g hg).2⟩, fun j s y hs hy => ?_, h.rg.touch T (h.lra.out (fun b _ _ h3 h4 => by have := h4.2.2; omega)), h.lra.le T.size, hr.touch T (hL.out (fun b _ _ h3 h4 => by have := h4.2.2; omega)), hL.le T.size⟩
 obtain ⟨g1, g2, g3⟩ := h.mb j s y hs hy
 exact ⟨g1.touch T (fun h4 => by have := h4.2.2; omega), g2, g3⟩
theorem AR {w1 : World} {o : Option Addr} {l : List Nat} (hr : Row w1 .i64 o (ints l)) (hf : ∀ b off, o = some ⟨b, off, none⟩ → w.heap.size ≤ b) (hlo : lo ≤ w.heap.size) (k : Nat) :
   ∃ lab', (∀ b, b < w.heap.size → lab' b = lab b) ∧ qO w1 lo lab' o l.length k := by
 refine ⟨fun b => if w.heap.size ≤ b then k else lab b, fun b hb => if_neg (by omega), fun h0 b off e => ?_⟩
 obtain ⟨b', off', e', hb', _⟩ := hr 0 (by simpa [ints] using h0)
 rw [e] at e'
 cases e'
 have := hf b off e
 exact ⟨by omega, hb', if_pos this⟩
end
theorem vI {zs : List Int} {b : Int} {k : Nat} (hk : k < zs.length) (h : nth zs k ≠ b) : (zs.take (k + 1)).filter (fun x => x != b) = (zs.take k).filter (fun x => x != b) ++ [nth zs k] := by
 rw [iV hk, List.filter_append]
 simp [h]
theorem wF {zs : List Int} {b : Int} {k : Nat} (hk : k < zs.length) (h : nth zs k = b) : (zs.take (k + 1)).filter (fun x => x != b) = (zs.take k).filter (fun x => x != b) := by
 rw [iV hk, List.filter_append]
 simp [h]
set_option maxHeartbeats 2000000 in
theorem yF (a : Option Addr) (cap : Nat) (zs : List Int) (b : Int) (w : World) (hr : Row w .i64 a zs) (hl : zs.length ≤ 10000) :
   Calls Tryz.prog 216 #[.slice a zs.length cap, .int .i64 b] w (dG w (zs.filter (fun x => x != b))) := by
 obtain ⟨i0, hi, hz0, hz1, hz2⟩ := info_parts jf
 go_enter Tryz.func216, Tryz.ntmps216
 go_wp2
 go_loopw [5, 6] (fun v i wr => ∃ k : Nat, k ≤ zs.length ∧ i = .int .i64 k ∧ ∃ m, m ≤ k ∧ gD w v m ((zs.take k).filter (fun x => x != b)) wr) (fun _ i _ => zs.length - (intOf i).toNat)
 case atStart => exact ⟨0, Nat.zero_le _, rfl, 0, Nat.le_refl _, World.ownsRow_nil _ _ _ _, Below.refl _ _⟩
 case round =>
   obtain ⟨k, hk, rfl, m, hm, hown, hbel⟩ := hrel
   by_cases hlt : k < zs.length
   · obtain ⟨g, off, rfl, hb, hcw⟩ := hr k hlt
     have hc := (hbel.cell (p := ⟨g, off + k, none⟩) hb).trans hcw
     have hsz := hbel.size
     by_cases he : nth zs k = b
     · have HT := hid (wF hlt he)
       have hn : (nth zs k != b) = false := by simp [he]
       have HG : Hid (gD w u5 m ((zs.take (k + 1)).filter (fun x => x != b)) wr) := hid (by rw [HT.out]; exact ⟨hown, hbel⟩)
       clear hcw hown hbel he
       go_wp2
       go_roundw
       case rel => exact ⟨k + 1, by omega, by go_num, m, by omega, HG.out⟩
       case measure => simp [intOf]; omega
     · have HT := hid (vI hlt he)
       have hn : (nth zs k != b) = true := by simp [he]
       have HW := hid hcw
       clear hcw he
       go_wp2_with (at_builtin; refine wpList_append_own _ rfl _ _ 39 rfl w.heap.size 3 i0 (.int .i64 0) 1 8 Tryz.underlying39 hi hz0 hz1 hz2 rfl (by decide) _ _ _ rfl (hown.alloc _) ⟨wr.heap.size, 0, none⟩ 1 1 [.int .i64 (nth zs k)] rfl rfl ?c1 ?c2 ?c3 ?c4 ?c5 ?c6)
       case c1 => exact cell_one_new wr _ _
       case c2 => intro u hu; simp at hu; subst hu; rfl
       case c3 => unfold maxLen; omega
       case c4 => omega
       case c5 => simp; omega
       case c6 =>
         intro v' w1 hown' hgrow _
         have hbel1 : Below w.heap.size w w1 := (hbel.alloc hsz _).grown hgrow (by simp; omega) (aP hown)
         have HG : Hid (gD w v' (m + 1) ((zs.take (k + 1)).filter (fun x => x != b)) w1) := by
           refine ⟨?_, hbel1⟩
           rw [HT.out]
           simpa using hown'
         clear hown' hgrow hbel1 hown hbel hc hn
         go_wp2
         go_roundw
         case rel => exact ⟨k + 1, by omega, by go_num, m + 1, by omega, HG.out⟩
         case measure => simp [intOf]; omega
   · have e : k = zs.length := by omega
     have HO : Hid (dG w (zs.filter (fun x => x != b)) (.returned u5) wr) := by
       have h1 : gD w u5 m (zs.filter (fun x => x != b)) wr := by
         have := (⟨hown, hbel⟩ : gD w u5 m ((zs.take k).filter (fun x => x != b)) wr)
         rwa [e, List.take_length] at this
       have hm2 : m = (zs.filter (fun x => x != b)).length := by
         have := h1.1.1
         simp at this
         omega
       exact dG.mk hm2 h1
     clear e hown hbel
     go_wp2
     go_ret
     exact HO.out
theorem mf (l : List Nat) (b : Nat) : (ints l).filter (fun x => x != (b : Int)) = ints (l.filter (fun x => x != b)) := by
 induction l with
 | nil => rfl
 | cons x t ih =>
   show (((x : Int) :: ints t).filter _) = ints (List.filter _ (x :: t))
   by_cases h : x = b
   · subst h; simp [ih]
   · have h1 : ((x : Int) != (b : Int)) = true := by simp; omega
     have h2 : (x != b) = true := by simp [h]
     rw [List.filter_cons_of_pos (p := fun x => x != (b : Int)) h1, List.filter_cons_of_pos (p := fun x => x != b) h2, ih]; rfl
theorem Nr {l1 l2 : List Nat} {b : Nat} (h : (l1 ++ b :: l2).Nodup) : (l1 ++ b :: l2).filter (fun x => x != b) = l1 ++ l2 := by
 rw [List.nodup_append] at h
 obtain ⟨n1, n2, n3⟩ := h
 obtain ⟨n4, n5⟩ := List.nodup_cons.1 n2
 rw [List.filter_append, List.filter_cons_of_neg (by simp), List.filter_eq_self.2 (fun x hx => by simp; exact fun e => n3 x hx b (by simp) e), List.filter_eq_self.2 (fun x hx => by simp; exact fun e => n4 (by rw [← e]; exact hx))]
theorem sZ (a : Option Addr) (cap : Nat) (l l' : List Nat) (b : Int) (w : World) (hr : Row w .i64 a (ints l)) (hl : l.length ≤ 9000) (hf : (ints l).filter (fun x => x != b) = ints l') :
   Calls Tryz.prog 216 #[.slice a l.length cap, .int .i64 b] w (eX l' w) := by
 have := yF a cap (ints l) b w hr (by rw [az]; omega)
 rw [az] at this
 exact this.mono (fun e w' h => h.Ji hf)
end Go.Proofs.YtbhhfnlkpieebaaGreat.Pk
