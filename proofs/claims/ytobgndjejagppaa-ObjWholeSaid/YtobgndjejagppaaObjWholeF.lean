/-
  Layer 11: the law of whole objects, of packages pool and obj that do what they must.
-/
import Derived.Test.YtobgndjejagppaaObjApartF
import Derived.Test.YtobgndjejagppaaRecs
namespace Go.Proofs.Ytobgndjejagppaa.Pk
open Go.RowKit
set_option linter.unusedVariables false
set_option linter.unusedSimpArgs false

theorem own_touch {X : Nat → Prop} {w w' : World} {base : Nat} {e : TypeId} {size : Nat} {v : Value} {n : Nat} {xs : List Value} (h : w.ownsRow base e size v n xs) (t : Touch X w w') (hx : ∀ b, base ≤ b → ¬ X b) : w'.ownsRow base e size v n xs := by
  refine ⟨h.1, ?_⟩
  rcases h.2 with hn | ⟨g, cap, cur, rfl, hbg, hgg, rest⟩
  · exact .inl hn
  · exact .inr ⟨g, cap, cur, rfl, hbg, (t.block g (lt_of_block hgg) (hx g hbg)).trans hgg, rest⟩
theorem osz_of {w : World} {a : Option Addr} {rs : List (List Fld)} (hr : Recs w a [.int .i64, .int .i64] rs) {k : Nat} (hk : k < rs.length) :
    ∃ (b off : Nat) (x y : Int), a = some ⟨b, off, none⟩ ∧ b < w.heap.size ∧ w.cell? ⟨b, off + k * 2, none⟩ = some (.int .i64 x) ∧ w.cell? ⟨b, off + k * 2 + 1, none⟩ = some (.int .i64 y) := by
  obtain ⟨h1, b, off, ha, hb, hc⟩ := hr k rs[k] (by simp [hk])
  generalize rs[k] = r at h1 hc
  have hl : r.length = 2 := by have := congrArg List.length h1; simpa using this
  match r, hl with
  | [f0, f1], _ =>
    simp at h1
    obtain ⟨k0, k1⟩ := h1
    have c0 := hc 0 f0 rfl
    have c1 := hc 1 f1 rfl
    cases f0 <;> simp [Fld.kd] at k0
    cases f1 <;> simp [Fld.kd] at k1
    subst k0 k1
    exact ⟨b, off, _, _, ha, hb, by simpa [Fld.val] using c0.1, by simpa [Fld.val] using c1.1⟩
theorem HeapAt.poolN {c : Cf} {zs : List Int} {pool : List Nat} (h : HeapAt c zs pool []) : pool.length = c.N := by
  have := h.perm.length_eq
  simpa using this
theorem HSt.act0 {w wr : World} {p : Pl} {c : Cf} {zs : List Int} {pool : List Nat} {os : List Ob} {f : FuncId} {args : List Value} {B : Nat} {v : Value} (h : HSt w p c zs pool os wr) (ha : Acts c f args zs B zs v) :
    Calls Try.prog f (List.toArray (.pointer (some ⟨p.a, 0, none⟩) :: args)) wr fun e w' => e = .returned v ∧ HSt w p c zs pool os w' ∧ Touch (inG p) wr w' := h.act ha h.heap
/-- What the law has made, and remembers. -/
def Whole (os : List Ob) (ms : List Int) : Prop := ms.length = os.length ∧ ∀ x, x ∈ ms → ∃ o, o ∈ os ∧ (o.h : Int) + 1 = x ∧ 0 ∉ o.lv
theorem Whole.more {os : List Ob} {ms : List Int} (h : Whole os ms) (a np nd : Nat) (ls : List Nat) : Whole (os ++ [newOb a np nd ls]) (ms ++ [(a : Int) + 1]) := by
  refine ⟨by simp [h.1], fun x hx => ?_⟩
  rcases List.mem_append.1 hx with hx | hx
  · obtain ⟨o, h1, h2, h3⟩ := h.2 x hx
    exact ⟨o, by simp [h1], h2, h3⟩
  · simp at hx
    exact ⟨newOb a np nd ls, by simp, hx.symm, by simp [newOb]⟩
theorem leaves_none {o : Ob} (h : ∀ i, (hi : i < o.lv.length) → o.lv[i] = 0) : o.leaves = [] := by
  unfold Ob.leaves
  rw [List.filterMap_eq_nil_iff]
  intro a ha
  obtain ⟨i, hi, e⟩ := List.mem_iff_getElem.1 ha
  have := h i hi
  simp [← e, this]
theorem obAt_filter {os : List Ob} {h : Nat} : obAt (os.filter (fun x => x.h != h)) ((h : Int) + 1) = none := by
  unfold obAt
  rw [List.find?_eq_none]
  intro x hx
  have := (List.mem_filter.1 hx).2
  simp at this
  simp
  omega

set_option maxRecDepth 100000 in
set_option maxHeartbeats 4000000 in
theorem objWhole_few (F : PoolFns) (O : ObjFns) (n x : Nat) (a : Option Addr) (cap : Nat) (rs : List (List Fld)) (w : World) (h0 : 1 ≤ n) (h1 : n ≤ 60) (h2 : rs.length ≤ 40) (hx : x < 256) (hr : Recs w a [.int .i64, .int .i64] rs) :
    Calls Try.prog 4 #[.int .u8 (n : Int), .slice a rs.length cap, .int .u8 (x : Int)] w fun e w' => e = .returned (.bool true) ∧ Below w.heap.size w w' := by
  obtain ⟨i0, hi, hz0, hz1, hz2⟩ := info_parts infoInt
  have HR := Lib.hid hr
  have g0 : ¬ (n : Int) < 1 := by omega
  have g1 : ¬ 60 < (n : Int) := by omega
  have g2 : ¬ 40 < (rs.length : Int) := by omega
  have HM := Lib.hid (cfR_may h0 (show n ≤ 1000 by omega))
  clear hr
  go_enter Try.func4, Try.ntmps4
  go_wp2_with fail
  refine (opened16 F n _ h0 (by omega)).mono ?_
  rintro e w1 ⟨p, z0, m0, rfl, hG, hh, hp, hb⟩
  have H0 : Hid (HSt w p (cfR n) z0 (List.range n) [] w1) := Lib.hid ⟨m0, hG, hh, hp, hb⟩
  have HNG : Hid (∀ i, w1.heap.size ≤ i → ¬ inG p i) := Lib.hid (fun i hi hx => H0.out.notG hi (Or.inr hx))
  have HP := Lib.hid hp
  have HB1 : Hid (w.heap.size ≤ w1.heap.size) := Lib.hid hb.size
  clear hG hh hp hb
  go_wp2_with fail
  go_loopw [9, 43] (fun v i wr => ∃ k : Nat, k ≤ rs.length ∧ i = .int .i64 (k : Int) ∧ ∃ zs pool os ms, HSt w p (cfR n) zs pool os wr ∧ Whole os ms ∧ ms.length ≤ k ∧ wr.ownsRow w1.heap.size 3 1 v ms.length (ms.map (Value.int .i64)) ∧ w1.heap.size ≤ wr.heap.size) (fun _ i _ => rs.length - (intOf i).toNat)
  case atStart => exact ⟨0, Nat.zero_le _, rfl, z0, _, [], [], H0.out, ⟨rfl, by simp⟩, Nat.le_refl _, World.ownsRow_nil _ _ _ _, Nat.le_refl _⟩
  case round =>
    obtain ⟨k, hk, rfl, zs, pool, os, ms, hS, hW, hmk, hown, hsz⟩ := hrel
    have HS := Lib.hid hS
    have HW := Lib.hid hW
    have HO := Lib.hid hown
    have HSz := Lib.hid hsz
    by_cases hlt : k < rs.length
    · obtain ⟨b, off, x0, y0, rfl, hb0, c0, c1⟩ := osz_of HR.out hlt
      have d0 := (hS.below.cell (p := ⟨b, off + k * 2, none⟩) hb0).trans c0
      have d1 := (hS.below.cell (p := ⟨b, off + k * 2 + 1, none⟩) hb0).trans c1
      have HBx := Lib.hid (Blk.new wr #[.int .i64 x0, .int .i64 y0] 23)
      have HS1 := Lib.hid (hS.later (below_new wr (.cells #[.int .i64 x0, .int .i64 y0] 23)))
      have HO1 := Lib.hid (hown.alloc (.cells #[.int .i64 x0, .int .i64 y0] 23))
      have HNx : Hid (¬ inG p wr.heap.size) := Lib.hid (fun hx => hS.notG (Nat.le_refl _) (Or.inr hx))
      clear hS hW hown hsz c0 c1 hb0
      have A1 := Lib.hid (F.len (cfR n) zs pool HS1.out.wz HS1.out.heap.pl.ch)
      go_wp2_with fail
      refine (HS1.out.act0 A1.out).mono ?_
      rintro e w2 ⟨rfl, hS, hT⟩
      have HS2 := Lib.hid hS
      have HB2 := Lib.hid (HBx.out.touch hT HNx.out)
      have HO2 := Lib.hid (own_touch HO1.out hT HNG.out)
      have HZ2 : Hid (w1.heap.size ≤ w2.heap.size) := Lib.hid (Nat.le_trans HSz.out (by have := hT.size; simp at this; omega))
      have e0 := HB2.out.cell 0 rfl
      have e1 := HB2.out.cell 1 rfl
      clear hS hT d0 d1
      go_wp2_with fail
      refine (make_any O HS2.out x0 y0).mono ?_
      rintro e w3 ⟨hM, hT⟩
      have HO3 := Lib.hid (own_touch HO2.out hT HNG.out)
      have HZ3 : Hid (w1.heap.size ≤ w3.heap.size) := Lib.hid (Nat.le_trans HZ2.out hT.size)
      clear hT e0 e1
      rcases hM with ⟨E1, rfl, hE1, h3⟩ | ⟨h', ls, pool', zs', np, nd, rfl, rfl, hpool, rfl, h3, hMd, hlen⟩
      · have HS3 := Lib.hid h3
        have hEb : (E1 != 0) = true := by rw [bne_iff_ne]; exact hE1
        have A2 := Lib.hid (F.len (cfR n) zs pool h3.wz h3.heap.pl.ch)
        clear h3 hE1
        go_wp2_with fail
        refine (HS3.out.act0 A2.out).mono ?_
        rintro e w4 ⟨rfl, hS, hT⟩
        have HS4 := Lib.hid hS
        have HO4 := Lib.hid (own_touch HO3.out hT HNG.out)
        have HZ4 : Hid (w1.heap.size ≤ w4.heap.size) := Lib.hid (Nat.le_trans HZ3.out hT.size)
        clear hS hT
        go_wp2_with fail
        go_roundw
        case rel => exact ⟨k + 1, by omega, by go_num, zs, pool, os, ms, HS4.out, HW.out, by omega, HO4.out, HZ4.out⟩
        case measure => simp [intOf]; omega
      · have HS3 := Lib.hid h3
        have hk1 : blkN (os ++ [newOb h' np nd ls]) ((h' : Int) + 1) = 1 + (ls.length : Int) := by
          unfold blkN
          have := h3.heap.obAt (o := newOb h' np nd ls) (by simp)
          rw [show ((h' : Int) + 1) = (((newOb h' np nd ls).h : Int) + 1) from rfl, this]
          simp [newOb]
        have hpl : pool.length = 1 + ls.length + pool'.length := by rw [hpool]; simp; omega
        have hpn : pool.length ≤ 60 := Nat.le_trans (nodup_len HS2.out.heap.pl.ch.nd HS2.out.heap.pl.ch.lt) h1
        have A2 := O.blocks (cfR n) zs' pool' _ ((h' : Int) + 1) h3.wz h3.heap (h3.heap.in64 h3.wz.may (o := newOb h' np nd ls) (by simp))
        rw [hk1] at A2
        have HA2 := Lib.hid A2
        have A3 := Lib.hid (F.len (cfR n) zs' pool' h3.wz h3.heap.pl.ch)
        have HW2 := Lib.hid (HW.out.more h' np nd ls)
        have l1 : ¬ (1 + (ls.length : Int) < 1) := by omega
        have l2 : IntKind.i64.wrap ((pool.length : Int) - (1 + (ls.length : Int))) = (pool'.length : Int) := by rw [show (pool.length : Int) - (1 + (ls.length : Int)) = (pool'.length : Int) by omega]; exact IntWalk.i64_in _ (by omega)
        clear h3 hMd hlen hpool hk1 A2 hpl
        go_wp2_with fail
        refine (HS3.out.act0 HA2.out).mono ?_
        rintro e w4 ⟨rfl, hS, hT⟩
        have HS4 := Lib.hid hS
        have HO4 := Lib.hid (own_touch HO3.out hT HNG.out)
        have HZ4 : Hid (w1.heap.size ≤ w4.heap.size) := Lib.hid (Nat.le_trans HZ3.out hT.size)
        clear hS hT
        go_wp2_with fail
        refine (HS4.out.act0 A3.out).mono ?_
        rintro e w5 ⟨rfl, hS, hT⟩
        have HS5 := Lib.hid hS
        have hown := own_touch HO4.out hT HNG.out
        have hsz : w1.heap.size ≤ w5.heap.size := Nat.le_trans HZ4.out hT.size
        clear hS hT
        go_wp2_with (at_builtin; refine wpList_append_own _ rfl _ _ 34 rfl w1.heap.size 3 i0 (.int .i64 0) 1 8 Try.underlying34 hi hz0 hz1 hz2 rfl (by decide) _ _ _ rfl (hown.alloc _) ⟨w5.heap.size, 0, none⟩ 1 1 [.int .i64 ((h' : Int) + 1)] rfl rfl ?c1 ?c2 ?c3 ?c4 ?c5 ?c6)
        case c1 => exact cell_one_new w5 _ _
        case c2 => intro u hu; simp at hu; subst hu; rfl
        case c3 => unfold maxLen; omega
        case c4 => omega
        case c5 => simp; omega
        case c6 =>
          intro v' w6 hown' hgrow _
          have hown6 : w6.ownsRow w1.heap.size 3 1 v' (ms ++ [(h' : Int) + 1]).length ((ms ++ [(h' : Int) + 1]).map (Value.int .i64)) := by simpa using hown'
          have HO6 := Lib.hid hown6
          have hbel6 : Below w1.heap.size w5 w6 := ((Below.refl w1.heap.size w5).alloc hsz (.cells #[.int .i64 ((h' : Int) + 1)] 3)).grown hgrow (by simp; omega) (owns_block hown)
          have HT6 : Hid (Touch (fun i => w1.heap.size ≤ i) w5 w6) := Lib.hid ⟨hbel6.os, hbel6.tape, hbel6.output, hbel6.size, fun j hj hx => hbel6.block j (by omega)⟩
          have HS6 : Hid (HSt w p (cfR n) zs' pool' (os ++ [newOb h' np nd ls]) w6) := Lib.hid (by
            obtain ⟨m, hG, hh, hp, hB⟩ := HS5.out
            exact ⟨m, hG.touch HT6.out (fun i hi hx => H0.out.notG hx hi), hh, hp, hB.trans (HT6.out.below (B := w.heap.size) (fun i hi => Nat.le_trans HB1.out hi) hB.size)⟩)
          have HZ6 : Hid (w1.heap.size ≤ w6.heap.size) := Lib.hid (Nat.le_trans hsz hbel6.size)
          clear hown' hgrow hown hown6 hbel6 hsz
          go_wp2_with fail
          go_roundw
          case rel => exact ⟨k + 1, by omega, by go_num, zs', pool', _, ms ++ [(h' : Int) + 1], HS6.out, HW2.out, by simp; omega, HO6.out, HZ6.out⟩
          case measure => simp [intOf]; omega
    · obtain ⟨am, cm, rfl, hrm⟩ := Row.of_owns hown
      have A1 := Lib.hid (F.len (cfR n) zs pool hS.wz hS.heap.pl.ch)
      cases hms : ms with
      | nil =>
        have hos : os = [] := by
          have := hW.1
          rw [hms] at this
          exact List.length_eq_zero_iff.1 this.symm
        have hpn : pool.length = n := by
          have h3 := hS.heap
          rw [hos] at h3
          exact h3.poolN
        have hz0' : ms.length = 0 := by rw [hms]; rfl
        rw [hpn] at A1
        have hm0 : ([] : List Int).length = 0 := rfl
        clear hS hW hown hsz hrm
        go_wp2_with fail
        refine (HS.out.act0 A1.out).mono ?_
        rintro e w2 ⟨rfl, hS, hT⟩
        have HS2 := Lib.hid hS
        clear hS hT
        go_wp2_with fail
        refine (begun11_any F O _).mono ?_
        rintro e w3 ⟨rfl, hb⟩
        have HB3 := Lib.hid (below_step HS2.out.below hb)
        clear hb
        go_wp2_with fail
        go_ret
        exact ⟨rfl, HB3.out⟩
      | cons m0' mt =>
        rw [← hms]
        have hml : 0 < ms.length := by rw [hms]; simp
        have hml2 : ¬ (ms.length : Int) = 0 := by omega
        obtain ⟨y, hy⟩ : ∃ y : Nat, y = x % ms.length := ⟨_, rfl⟩
        have hyl : y < ms.length := by rw [hy]; exact Nat.mod_lt _ hml
        have hrem : Int.tmod (x : Int) (ms.length : Int) = (y : Int) := by rw [hy, Int.tmod_eq_emod_of_nonneg (by omega)]; omega
        obtain ⟨g, off, rfl, hg, hc⟩ := hrm y hyl
        have hmem : nth ms y ∈ ms := by unfold nth; simp [List.getD, hyl]
        obtain ⟨o, ho, hro, hz⟩ := hW.2 _ hmem
        rw [← hro] at hc
        have A2 := O.blocks (cfR n) zs pool os ((o.h : Int) + 1) hS.wz hS.heap (hS.heap.in64 hS.wz.may ho)
        have hbk : blkN os ((o.h : Int) + 1) = 1 + (o.lv.length : Int) := by unfold blkN; rw [hS.heap.obAt ho]
        rw [hbk] at A2
        have HA2 := Lib.hid A2
        have hlv := (hS.heap.obs o ho).lvW HM.out
        have hlv2 : o.lv.length ≤ 8 := hlv
        have hpn : pool.length ≤ 60 := Nat.le_trans (nodup_len hS.heap.pl.ch.nd hS.heap.pl.ch.lt) h1
        have l1 : IntKind.i64.wrap (1 + (o.lv.length : Int) - 2) = (o.lv.length : Int) - 1 := by rw [show 1 + (o.lv.length : Int) - 2 = (o.lv.length : Int) - 1 by omega]; exact IntWalk.i64_in _ (by omega)
        obtain ⟨L, hL⟩ : ∃ L : Nat, L = o.lv.length := ⟨_, rfl⟩
        obtain ⟨P0, hP0⟩ : ∃ P0 : Nat, P0 = pool.length := ⟨_, rfl⟩
        obtain ⟨h, hh⟩ : ∃ h : Nat, h = o.h := ⟨_, rfl⟩
        have HT0 : Hid (∃ o', o' ∈ os ∧ o'.h = h ∧ o'.lv.length = L ∧ (∀ i, (hi : i < o'.lv.length) → i < L → o'.lv[i] ≠ 0) ∧ ∀ i, (hi : i < o'.lv.length) → L ≤ i → o'.lv[i] = 0) := Lib.hid ⟨o, ho, hh.symm, hL.symm, fun i hi _ e => hz (by rw [← e]; exact List.getElem_mem hi), fun i hi h => by omega⟩
        rw [← hh, ← hL] at HA2
        rw [← hP0] at A1 hpn
        rw [← hh] at hc
        rw [← hL] at l1 hlv2
        have HP0 : Hid (pool.length = P0 + (L - L)) := Lib.hid (by omega)
        clear hS hW hown hsz hms hmem hro hz A2 hbk hlv hL hP0 hh ho hy hml
        go_wp2_with fail
        refine (HS.out.act0 A1.out).mono ?_
        rintro e w2 ⟨rfl, hS, hT⟩
        have HS2 := Lib.hid hS
        clear hS hT hc hg
        go_wp2_with fail
        refine (HS2.out.act0 HA2.out).mono ?_
        rintro e w3 ⟨rfl, hS, hT⟩
        have HS3 := Lib.hid hS
        clear hS hT
        go_wp2_with fail
        go_loopw [19] (fun i wr => ∃ j : Nat, j ≤ L ∧ i = .int .i64 ((j : Int) - 1) ∧ ∃ zs pool os, HSt w p (cfR n) zs pool os wr ∧ pool.length = P0 + (L - j) ∧ ∃ o', o' ∈ os ∧ o'.h = h ∧ o'.lv.length = L ∧ (∀ i, (hi : i < o'.lv.length) → i < j → o'.lv[i] ≠ 0) ∧ ∀ i, (hi : i < o'.lv.length) → j ≤ i → o'.lv[i] = 0) (fun i _ => (intOf i + 1).toNat)
        case atStart => exact ⟨L, Nat.le_refl _, rfl, zs, pool, os, HS3.out, HP0.out, HT0.out⟩
        case round =>
          obtain ⟨j, hj, rfl, zs2, pool2, os2, hS, hpl, o', ho', hoh, hol, hne, hze⟩ := hrel
          have HS4 := Lib.hid hS
          by_cases hj0 : 0 < j
          · obtain ⟨i, rfl⟩ : ∃ i : Nat, j = i + 1 := ⟨j - 1, by omega⟩
            rw [show (((i + 1 : Nat) : Int) - 1) = (i : Int) by omega]
            have hil : i < o'.lv.length := by omega
            obtain ⟨bb, hbb⟩ : ∃ bb, o'.lv[i] = bb + 1 := ⟨o'.lv[i] - 1, by have := hne i hil (by omega); omega⟩
            obtain ⟨B, zs3, A4, hh4, _⟩ := O.shed_yes (cfR n) zs2 pool2 os2 o' i bb hS.wz hS.heap ho' (by rw [List.getElem?_eq_getElem hil, hbb])
            rw [hoh] at A4
            have HA4 := Lib.hid A4
            have HH4 := Lib.hid hh4
            have HN4 : Hid (∃ o2, o2 ∈ shedOs os2 o' i ∧ o2.h = h ∧ o2.lv.length = L ∧ (∀ q, (hq : q < o2.lv.length) → q < i → o2.lv[q] ≠ 0) ∧ ∀ q, (hq : q < o2.lv.length) → i ≤ q → o2.lv[q] = 0) := Lib.hid (by
              refine ⟨shedOb o' i, List.mem_map.2 ⟨o', ho', by rw [if_pos rfl]⟩, hoh, by simp [shedOb, hol], fun q hq hqi => ?_, fun q hq hqi => ?_⟩
              · have hq' : q < o'.lv.length := by simpa [shedOb] using hq
                simp only [shedOb, List.getElem_set]
                rw [if_neg (by omega)]
                exact hne q hq' (by omega)
              · have hq' : q < o'.lv.length := by simpa [shedOb] using hq
                simp only [shedOb, List.getElem_set]
                by_cases e : i = q
                · rw [if_pos e]
                · rw [if_neg e]; exact hze q hq' (by omega))
            have HPL : Hid ((bb :: pool2).length = P0 + (L - i)) := Lib.hid (by simp; omega)
            clear hS A4 hh4 hne hze ho' hoh hol hbb hil hpl
            go_wp2_with fail
            refine (HS4.out.act HA4.out HH4.out).mono ?_
            rintro e w5 ⟨rfl, hS, hT⟩
            have HS5 := Lib.hid hS
            clear hS hT
            go_wp2_with fail
            go_roundw
            case rel => exact ⟨i, by omega, by go_num, zs3, _, _, HS5.out, HPL.out, HN4.out⟩
            case measure => first | (simp [intOf]; done) | (simp [intOf]; omega)
          · obtain rfl : j = 0 := by omega
            rw [show (((0 : Nat) : Int) - 1) = -1 by omega]
            obtain ⟨B, zs3, A4, hh4, _⟩ := O.end_yes (cfR n) zs2 pool2 os2 o' hS.wz hS.heap ho' (leaves_none (fun i hi => hze i hi (Nat.zero_le _)))
            rw [hoh] at A4 hh4
            have H64 : Hid (In64 ((h : Int) + 1)) := Lib.hid (hoh ▸ hS.heap.in64 hS.wz.may ho')
            have HA4 := Lib.hid A4
            have HH4 := Lib.hid hh4
            have hpl2 : ((h :: pool2).length : Int) = (P0 : Int) + (1 + (L : Int)) := by simp; omega
            have l5 : IntKind.i64.wrap ((P0 : Int) + (1 + (L : Int))) = (P0 : Int) + (1 + (L : Int)) := IntWalk.i64_in _ (by omega)
            have HPL := Lib.hid hpl2
            clear hS A4 hh4 hne hze ho' hoh hol hpl hpl2
            go_wp2_with fail
            refine (HS4.out.act HA4.out HH4.out).mono ?_
            rintro e w5 ⟨rfl, hS, hT⟩
            have HS5 := Lib.hid hS
            have A5 := O.is_ (cfR n) zs3 _ _ ((h : Int) + 1) hS.wz hS.heap H64.out
            rw [obAt_filter] at A5
            have HA5 := Lib.hid A5
            obtain ⟨B6, A6⟩ := O.end_no (cfR n) zs3 _ _ ((h : Int) + 1) hS.wz hS.heap H64.out obAt_filter
            have HA6 := Lib.hid A6
            have A7 := F.len (cfR n) zs3 _ hS.wz hS.heap.pl.ch
            rw [HPL.out] at A7
            have HA7 := Lib.hid A7
            clear hS hT A5 A6 A7
            go_wp2_with fail
            refine (HS5.out.act0 HA5.out).mono ?_
            rintro e w6 ⟨rfl, hS, hT⟩
            have HS6 := Lib.hid hS
            clear hS hT
            go_wp2_with fail
            refine (HS6.out.act0 HA6.out).mono ?_
            rintro e w7 ⟨rfl, hS, hT⟩
            have HS7 := Lib.hid hS
            clear hS hT
            go_wp2_with fail
            refine (HS7.out.act0 HA7.out).mono ?_
            rintro e w8 ⟨rfl, hS, hT⟩
            have HS8 := Lib.hid hS
            clear hS hT
            go_wp2_with fail
            refine (begun11_any F O _).mono ?_
            rintro e w9 ⟨rfl, hb⟩
            have HB9 := Lib.hid (below_step HS8.out.below hb)
            clear hb
            go_wp2_with fail
            go_ret
            exact ⟨rfl, HB9.out⟩

set_option maxRecDepth 100000 in
theorem objWhole_out (F : PoolFns) (O : ObjFns) (n x : Int) (a : Option Addr) (cap len : Nat) (w : World) (h : n < 1 ∨ 60 < n ∨ 40 < len) (hm : len ≤ maxLen) :
    Calls Try.prog 4 #[.int .u8 n, .slice a len cap, .int .u8 x] w fun e w' => e = .returned (.bool true) ∧ Below w.heap.size w w' := by
  unfold maxLen at hm
  by_cases h0 : n < 1
  · clear h
    go_enter Try.func4, Try.ntmps4
    go_wp2_with fail
    refine (begun11_any F O _).mono ?_
    rintro e w9 ⟨rfl, hb⟩
    go_wp2_with fail
    go_ret
    exact ⟨rfl, hb⟩
  · by_cases h1 : 60 < n
    · clear h
      go_enter Try.func4, Try.ntmps4
      go_wp2_with fail
      refine (begun11_any F O _).mono ?_
      rintro e w9 ⟨rfl, hb⟩
      go_wp2_with fail
      go_ret
      exact ⟨rfl, hb⟩
    · have g2 : 40 < (len : Int) := by omega
      clear h
      go_enter Try.func4, Try.ntmps4
      go_wp2_with fail
      refine (begun11_any F O _).mono ?_
      rintro e w9 ⟨rfl, hb⟩
      go_wp2_with fail
      go_ret
      exact ⟨rfl, hb⟩
theorem objWhole_any (F : PoolFns) (O : ObjFns) (n : Int) (a : Option Addr) (cap : Nat) (rs : List (List Fld)) (x : Int) (w : World) (hn : (Lit.int .u8 n).wf = true) (hr : Recs w a [.int .i64, .int .i64] rs) (hm : rs.length ≤ maxLen) (hx : (Lit.int .u8 x).wf = true) :
    Calls Try.prog 4 #[.int .u8 n, .slice a rs.length cap, .int .u8 x] w fun e w' => e = .returned (.bool true) ∧ Below w.heap.size w w' := by
  have hn' : 0 ≤ n ∧ n < 256 := by simp [Lit.wf, IntKind.min, IntKind.max, IntKind.bits, IntKind.signed] at hn; omega
  have hx' : 0 ≤ x ∧ x < 256 := by simp [Lit.wf, IntKind.min, IntKind.max, IntKind.bits, IntKind.signed] at hx; omega
  by_cases h : n < 1 ∨ 60 < n ∨ 40 < rs.length
  · exact objWhole_out F O n x a cap _ w h hm
  · obtain ⟨m, rfl⟩ := Int.eq_ofNat_of_zero_le hn'.1
    obtain ⟨y, rfl⟩ := Int.eq_ofNat_of_zero_le hx'.1
    exact objWhole_few F O m y a cap rs w (by omega) (by omega) (by omega) (by omega) hr

end Go.Proofs.Ytobgndjejagppaa.Pk
