/-
  Layer 11: the law of fields apart, of packages pool and obj that do what they must.
-/
import Derived.Test.YtobgndjejagppaaObjLaw
import Derived.Test.YtobgndjejagppaaBase
namespace Go.Proofs.Ytobgndjejagppaa.Pk
open Go.RowKit
set_option linter.unusedVariables false
set_option linter.unusedSimpArgs false

/-- Make, whatever comes of it. -/
def MakeEnd (w : World) (p : Pl) (c : Cf) (zs : List Int) (pool : List Nat) (os : List Ob) (x y : Int) (e : Ending) (w' : World) : Prop :=
  (∃ E : Int, e = .returned (.tuple #[.int .i64 0, .int .i64 E]) ∧ E ≠ 0 ∧ HSt w p c zs pool os w') ∨
  ∃ (h : Nat) (ls pool' : List Nat) (zs' : List Int) (np nd : Nat), x = (np : Int) ∧ y = (nd : Int) ∧ pool = h :: ls ++ pool' ∧ e = .returned (.tuple #[.int .i64 ((h : Int) + 1), .int .i64 0]) ∧ HSt w p c zs' pool' (os ++ [newOb h np nd ls]) w' ∧ MadeOb c zs zs' pool' os (newOb h np nd ls) ∧ (1 + ls.length : Int) = blocksV c.W np nd
theorem make_any (O : ObjFns) {w wr : World} {p : Pl} {c : Cf} {zs : List Int} {pool : List Nat} {os : List Ob} (h : HSt w p c zs pool os wr) (x y : Int) :
    Calls Try.prog 7 #[.pointer (some ⟨p.a, 0, none⟩), .int .i64 x, .int .i64 y] wr fun e w' => MakeEnd w p c zs pool os x y e w' ∧ Touch (inG p) wr w' := by
  by_cases hs : sizeE c.W x y = 0
  · obtain ⟨w0, w1, x0, y0, hf⟩ := sizeE_ok hs
    obtain ⟨np, rfl⟩ := Int.eq_ofNat_of_zero_le x0
    obtain ⟨nd, rfl⟩ := Int.eq_ofNat_of_zero_le y0
    by_cases hl : (pool.length : Int) < blocksV c.W (np : Int) (nd : Int)
    · obtain ⟨B, hA⟩ := O.make_full c zs pool os _ _ h.wz h.heap hs hl
      refine (h.act hA h.heap).mono ?_
      rintro e w' ⟨rfl, h', hT⟩
      exact ⟨Or.inl ⟨4, rfl, by decide, h'⟩, hT⟩
    · have hb : blocksV c.W (np : Int) (nd : Int) = 1 + leavesI c.W ((np : Int) + nd) := by unfold blocksV; rw [if_pos hs]
      have hbd := leaves_bd (W := c.W) (n := (np : Int) + nd) w0 w1 hf
      obtain ⟨k, hk⟩ := Int.eq_ofNat_of_zero_le hbd.1
      rw [hb, hk] at hl
      match pool, hl, h with
      | [], hl, _ => simp at hl; omega
      | a :: t, hl, h =>
        have hkt : k ≤ t.length := by simp at hl; omega
        have e1 : a :: t = a :: t.take k ++ t.drop k := by simp
        have h2 : HSt w p c zs (a :: t.take k ++ t.drop k) os wr := e1 ▸ h
        have hlen : (1 + (t.take k).length : Int) = blocksV c.W (np : Int) (nd : Int) := by rw [hb, hk]; simp [Nat.min_eq_left hkt]
        obtain ⟨B, zs', hA, hM⟩ := O.make_yes c zs a (t.take k) (t.drop k) os np nd h2.wz h2.heap hs hlen
        refine (h2.act hA hM.heap).mono ?_
        rintro e w' ⟨rfl, h', hT⟩
        exact ⟨Or.inr ⟨a, t.take k, t.drop k, zs', np, nd, rfl, rfl, e1, rfl, h', hM, hlen⟩, hT⟩
  · obtain ⟨B, hA⟩ := O.make_size c zs x y h.wz hs
    refine (h.act hA h.heap).mono ?_
    rintro e w' ⟨rfl, h', hT⟩
    exact ⟨Or.inl ⟨_, rfl, hs, h'⟩, hT⟩

/-- What is seen of an object, behind one of its fields' setting. -/
theorem lists_ptr {c : Cf} {zs zs' : List Int} {os : List Ob} {o : Ob} {i : Nat} {x : Int} (h : ∀ o' i', o' ∈ os → i' < o'.f → fldV c zs' o' i' = if o'.h = o.h ∧ i' = i then x else fldV c zs o' i') (ho : o ∈ os) (hi : i < o.np) :
    ptrL c zs' o = (ptrL c zs o).set i x ∧ dataL c zs' o = dataL c zs o := by
  constructor
  · apply List.ext_getElem
    · simp [ptrL]
    · intro j h1 h2
      have hj : j < o.np := by simpa [ptrL] using h1
      simp only [ptrL, List.getElem_map, List.getElem_range, List.getElem_set]
      rw [h o j ho (by unfold Ob.f; omega)]
      by_cases e : i = j
      · rw [if_pos ⟨rfl, e.symm⟩, if_pos e]
      · rw [if_neg (fun h => e h.2.symm), if_neg e]
  · unfold dataL
    refine List.map_congr_left (fun j hj => ?_)
    have hj' := List.mem_range.1 hj
    rw [h o _ ho (by unfold Ob.f; omega), if_neg (fun e => by have := e.2; omega)]
theorem lists_data {c : Cf} {zs zs' : List Int} {os : List Ob} {o : Ob} {k : Nat} {x : Int} (h : ∀ o' i', o' ∈ os → i' < o'.f → fldV c zs' o' i' = if o'.h = o.h ∧ i' = o.np + k then x else fldV c zs o' i') (ho : o ∈ os) (hk : k < o.nd) :
    ptrL c zs' o = ptrL c zs o ∧ dataL c zs' o = (dataL c zs o).set k x := by
  constructor
  · unfold ptrL
    refine List.map_congr_left (fun j hj => ?_)
    have hj' := List.mem_range.1 hj
    rw [h o _ ho (by unfold Ob.f; omega), if_neg (fun e => by have := e.2; omega)]
  · apply List.ext_getElem
    · simp [dataL]
    · intro j h1 h2
      have hj : j < o.nd := by simpa [dataL] using h1
      simp only [dataL, List.getElem_map, List.getElem_range, List.getElem_set]
      rw [h o _ ho (by unfold Ob.f; omega)]
      by_cases e : k = j
      · rw [if_pos ⟨rfl, by omega⟩, if_pos e]
      · rw [if_neg (fun h => e (by have := h.2; omega)), if_neg e]
theorem lists_other {c : Cf} {zs zs' : List Int} {os : List Ob} {o o' : Ob} {i : Nat} {x : Int} (h : ∀ o' i', o' ∈ os → i' < o'.f → fldV c zs' o' i' = if o'.h = o.h ∧ i' = i then x else fldV c zs o' i') (ho : o' ∈ os) (hne : o'.h ≠ o.h) :
    ptrL c zs' o' = ptrL c zs o' ∧ dataL c zs' o' = dataL c zs o' := by
  constructor
  · unfold ptrL
    refine List.map_congr_left (fun j hj => ?_)
    have hj' := List.mem_range.1 hj
    rw [h o' _ ho (by unfold Ob.f; omega), if_neg (fun e => hne e.1)]
  · unfold dataL
    refine List.map_congr_left (fun j hj => ?_)
    have hj' := List.mem_range.1 hj
    rw [h o' _ ho (by unfold Ob.f; omega), if_neg (fun e => hne e.1)]

/-- An object that was seen: its box, and both rows, in blocks from lo on, below hi. -/
structure Seen (w : World) (q lo hi : Nat) (P D : List Int) (n1 n2 : Nat) (a1 : Option Addr) (c1 : Nat) (a2 : Option Addr) (c2 : Nat) : Prop where
  box : Blk w q #[.slice a1 n1 c1, .slice a2 n2 c2] 37
  r1 : OwnR w .i64 a1 P
  r2 : OwnR w .u32 a2 D
  l1 : P.length = n1
  l2 : D.length = n2
  hq : lo ≤ q ∧ q < hi
  h1 : ∀ b off, a1 = some ⟨b, off, none⟩ → lo ≤ b ∧ b < hi ∧ b ≠ q
  h2 : ∀ b off, a2 = some ⟨b, off, none⟩ → lo ≤ b ∧ b < hi ∧ b ≠ q
  h12 : ∀ b off b' off', a1 = some ⟨b, off, none⟩ → a2 = some ⟨b', off', none⟩ → b ≠ b'
theorem Seen.touch {X : Nat → Prop} {w w' : World} {q lo hi : Nat} {P D : List Int} {n1 n2 : Nat} {a1 : Option Addr} {c1 : Nat} {a2 : Option Addr} {c2 : Nat} (h : Seen w q lo hi P D n1 n2 a1 c1 a2 c2) (t : Touch X w w') (hx : ∀ i, lo ≤ i → i < hi → ¬ X i) : Seen w' q lo hi P D n1 n2 a1 c1 a2 c2 :=
  ⟨h.box.touch t (hx q h.hq.1 h.hq.2), h.r1.touch t (fun _ b off e => hx b (h.h1 b off e).1 (h.h1 b off e).2.1), h.r2.touch t (fun _ b off e => hx b (h.h2 b off e).1 (h.h2 b off e).2.1), h.l1, h.l2, h.hq, h.h1, h.h2, h.h12⟩
theorem Seen.later {w w' : World} {q lo hi : Nat} {P D : List Int} {n1 n2 : Nat} {a1 : Option Addr} {c1 : Nat} {a2 : Option Addr} {c2 : Nat} (h : Seen w q lo hi P D n1 n2 a1 c1 a2 c2) (hb : Below w.heap.size w w') : Seen w' q lo hi P D n1 n2 a1 c1 a2 c2 :=
  ⟨h.box.later hb, h.r1.later hb, h.r2.later hb, h.l1, h.l2, h.hq, h.h1, h.h2, h.h12⟩
theorem Seen.drw {w w' : World} {q lo hi : Nat} {P D : List Int} {n1 n2 : Nat} {a1 : Option Addr} {c1 : Nat} {a2 : Option Addr} {c2 : Nat} (h : Seen w q lo hi P D n1 n2 a1 c1 a2 c2) (hb : Drw w w') : Seen w' q lo hi P D n1 n2 a1 c1 a2 c2 := h.later hb.new
theorem Seen.set1 {w : World} {q lo hi : Nat} {P D : List Int} {n1 n2 b i : Nat} {c1 : Nat} {a2 : Option Addr} {c2 : Nat} (h : Seen w q lo hi P D n1 n2 (some ⟨b, 0, none⟩) c1 a2 c2) (hi' : i < P.length) (v : Int) : Seen (w.setCell ⟨b, i, none⟩ (.int .i64 v)) q lo hi (P.set i v) D n1 n2 (some ⟨b, 0, none⟩) c1 a2 c2 := by
  have t := (Touch.refl (fun i => i = b) w).setCell (p := ⟨b, i, none⟩) (fun _ => rfl) (.int .i64 v)
  exact ⟨h.box.touch t (fun e => (h.h1 b 0 rfl).2.2 e.symm), h.r1.set hi' v, h.r2.touch t (fun _ b' off e hx => h.h12 b 0 b' off rfl e hx.symm), by simpa using h.l1, h.l2, h.hq, h.h1, h.h2, h.h12⟩
theorem Seen.set2 {w : World} {q lo hi : Nat} {P D : List Int} {n1 n2 b i : Nat} {a1 : Option Addr} {c1 : Nat} {c2 : Nat} (h : Seen w q lo hi P D n1 n2 a1 c1 (some ⟨b, 0, none⟩) c2) (hi' : i < D.length) (v : Int) : Seen (w.setCell ⟨b, i, none⟩ (.int .u32 v)) q lo hi P (D.set i v) n1 n2 a1 c1 (some ⟨b, 0, none⟩) c2 := by
  have t := (Touch.refl (fun i => i = b) w).setCell (p := ⟨b, i, none⟩) (fun _ => rfl) (.int .u32 v)
  exact ⟨h.box.touch t (fun e => (h.h2 b 0 rfl).2.2 e.symm), h.r1.touch t (fun _ b' off e hx => h.h12 b' off b 0 e rfl hx), h.r2.set hi' v, h.l1, by simpa using h.l2, h.hq, h.h1, h.h2, h.h12⟩
/-- A new box with what was seen. -/
theorem Seen.mk' {c : Cf} {zs : List Int} {o : Ob} {w w' : World} {a1 : Option Addr} {c1 : Nat} {a2 : Option Addr} {c2 : Nat} (r1 : OwnR w' .i64 a1 (ptrL c zs o)) (r2 : OwnR w' .u32 a2 (dataL c zs o)) (f1 : ∀ b off, a1 = some ⟨b, off, none⟩ → w.heap.size ≤ b) (f2 : ∀ b off, a2 = some ⟨b, off, none⟩ → w.heap.size ≤ b)
    (f12 : ∀ b off b' off', a1 = some ⟨b, off, none⟩ → a2 = some ⟨b', off', none⟩ → b ≠ b') (hb : Below w.heap.size w w') (g1 : ∀ b off, a1 = some ⟨b, off, none⟩ → b < w'.heap.size) (g2 : ∀ b off, a2 = some ⟨b, off, none⟩ → b < w'.heap.size) :
    Seen (w'.alloc (.cells #[.slice a1 o.np c1, .slice a2 o.nd c2] 37)) w'.heap.size w.heap.size (w'.heap.size + 1) (ptrL c zs o) (dataL c zs o) o.np o.nd a1 c1 a2 c2 := by
  have hs := hb.size
  exact ⟨Blk.new _ _ _, r1.alloc _, r2.alloc _, ptrL_length c zs o, dataL_length c zs o, ⟨hs, by omega⟩, fun b off e => by have := f1 b off e; have := g1 b off e; omega, fun b off e => by have := f2 b off e; have := g2 b off e; omega, f12⟩

theorem dataE_ok {c : Cf} {os : List Ob} {r i : Int} {o : Ob} (ho : obAt os r = some o) (h : dataE c os r i = 0) : ∃ k : Nat, i = (k : Int) ∧ k < o.nd ∧ ∃ a, fieldA c o (o.np + k) = some a := by
  unfold dataE at h
  rw [ho] at h
  by_cases hb : (bel i o.nd && (fieldA c o (o.np + i.toNat)).isSome) = true
  · rw [Bool.and_eq_true] at hb
    obtain ⟨k, rfl, hk⟩ := bel_nat hb.1
    exact ⟨k, rfl, hk, Option.isSome_iff_exists.1 (by simpa using hb.2)⟩
  · simp [hb] at h
theorem ptrE_ok {c : Cf} {os : List Ob} {r i : Int} {o : Ob} (ho : obAt os r = some o) (h : ptrE c os r i = 0) : ∃ k : Nat, i = (k : Int) ∧ k < o.np ∧ ∃ a, fieldA c o k = some a := by
  unfold ptrE at h
  rw [ho] at h
  by_cases hb : (bel i o.np && (fieldA c o i.toNat).isSome) = true
  · rw [Bool.and_eq_true] at hb
    obtain ⟨k, rfl, hk⟩ := bel_nat hb.1
    exact ⟨k, rfl, hk, Option.isSome_iff_exists.1 (by simpa using hb.2)⟩
  · simp [hb] at h
theorem ints_n {zs : List Int} (a b : Option Addr) (n ca cb : Nat) (w : World) (hn : zs.length = n) (h1 : Row w .i64 a zs) (h2 : Row w .i64 b zs) (hl : n ≤ 10000) :
    Calls Try.prog 14 #[.slice a n ca, .slice b n cb] w fun e w' => e = .returned (.bool true) ∧ Drw w w' := by
  subst hn
  exact rcInts_same a b ca cb zs w h1 h2 hl

set_option maxRecDepth 100000 in
set_option maxHeartbeats 4000000 in
/-- The law, once both objects are made. -/
theorem objApart_main : True := trivial
set_option maxRecDepth 100000 in
set_option maxHeartbeats 8000000 in
theorem objApart_any (F : PoolFns) (O : ObjFns) (x1 y1 x2 y2 i j v : Int) (w : World) (hv0 : 0 ≤ v) (hv1 : v ≤ 4294967295) :
    Calls Try.prog 3 #[.agg #[.int .i64 x1, .int .i64 y1], .agg #[.int .i64 x2, .int .i64 y2], .int .i64 i, .int .i64 j, .int .u32 v] w fun e w' => e = .returned (.bool true) ∧ Below w.heap.size w w' := by
  have HM : Hid (cfR 40).May := Lib.hid (cfR_may (by decide) (by decide))
  go_enter Try.func3, Try.ntmps3
  have hBa := (Blk.new w #[.int .i64 x1, .int .i64 y1] 23).alloc (.cells #[.int .i64 x2, .int .i64 y2] 23)
  have hBb := Blk.new (w.alloc (.cells #[.int .i64 x1, .int .i64 y1] 23)) #[.int .i64 x2, .int .i64 y2] 23
  have hB0 := (below_new w (.cells #[.int .i64 x1, .int .i64 y1] 23)).alloc (by simp) (.cells #[.int .i64 x2, .int .i64 y2] 23)
  simp only [World.size_alloc] at hBb
  go_wp2_with fail
  generalize hw0 : (w.alloc _).alloc _ = w0 at *
  have HB0 := Lib.hid hB0
  have HBa := Lib.hid hBa
  have HBb := Lib.hid hBb
  clear hw0 hB0 hBa hBb
  refine (opened16 F 40 _ (by decide) (by decide)).mono ?_
  rintro e w1 ⟨p, z0, m0, rfl, hG, hh, hp, hb⟩
  have H0 : Hid (HSt w0 p (cfR 40) z0 (List.range 40) [] w1) := Lib.hid ⟨m0, hG, hh, hp, hb⟩
  have HP := Lib.hid hp
  have HBa1 := Lib.hid (HBa.out.later hb)
  have HBb1 := Lib.hid (HBb.out.later hb)
  clear hG hh hp hb
  have ca0 := HBa1.out.cell 0 rfl
  have ca1 := HBa1.out.cell 1 rfl
  go_wp2_with fail
  refine (make_any O H0.out x1 y1).mono ?_
  rintro e w2 ⟨hM, hT⟩
  have HBb2 := Lib.hid (HBb1.out.touch hT (fun hx => by have := HP.out _ hx; have := HBb.out.lt; omega))
  have cb0 := HBb2.out.cell 0 rfl
  have cb1 := HBb2.out.cell 1 rfl
  clear hT ca0 ca1
  rcases hM with ⟨E1, rfl, hE1, h1⟩ | ⟨h1', ls1, pool1, zs1, np1, nd1, rfl, rfl, hpool1, rfl, h1, hMd1, hlen1⟩
  · have HS1 := Lib.hid h1
    have hEb : (E1 != 0) = true := by rw [bne_iff_ne]; exact hE1
    clear h1 hE1
    go_wp2_with fail
    refine (make_any O HS1.out x2 y2).mono ?_
    rintro e w3 ⟨hM, _⟩
    rcases hM with ⟨E2, rfl, hE2, h2⟩ | ⟨h2', ls2, pool2, zs2, np2, nd2, rfl, rfl, hpool2, rfl, h2, hMd2, hlen2⟩
    · have HS2 := Lib.hid h2
      clear h2 hE2
      go_wp2_with fail
      refine (begun11_any F O _).mono ?_
      rintro e w4 ⟨rfl, hb⟩
      have HB4 := Lib.hid (below_step HB0.out (below_step HS2.out.below hb))
      clear hb
      go_wp2_with fail
      go_ret
      exact ⟨rfl, HB4.out⟩
    · have HS2 := Lib.hid h2
      clear h2 hMd2 hlen2 hpool2
      go_wp2_with fail
      refine (begun11_any F O _).mono ?_
      rintro e w4 ⟨rfl, hb⟩
      have HB4 := Lib.hid (below_step HB0.out (below_step HS2.out.below hb))
      clear hb
      go_wp2_with fail
      go_ret
      exact ⟨rfl, HB4.out⟩
  · have HS1 := Lib.hid h1
    clear h1 hMd1 hlen1 hpool1
    go_wp2_with fail
    refine (make_any O HS1.out x2 y2).mono ?_
    rintro e w3 ⟨hM, _⟩
    rcases hM with ⟨E2, rfl, hE2, h2⟩ | ⟨h2', ls2, pool2, zs2, np2, nd2, rfl, rfl, hpool2, rfl, h2, hMd2, hlen2⟩
    · have HS2 := Lib.hid h2
      have hEb : (E2 != 0) = true := by rw [bne_iff_ne]; exact hE2
      clear h2 hE2
      go_wp2_with fail
      refine (begun11_any F O _).mono ?_
      rintro e w4 ⟨rfl, hb⟩
      have HB4 := Lib.hid (below_step HB0.out (below_step HS2.out.below hb))
      clear hb
      go_wp2_with fail
      go_ret
      exact ⟨rfl, HB4.out⟩
    · have HSm := Lib.hid h2
      have hdis : h1' ≠ h2' := fun e => by
        have := h2.heap.nodupB
        rw [List.flatMap_append, List.nodup_append] at this
        exact this.2.2 h1' (by simp [newOb, Ob.blocks]) h1' (by simp [newOb, Ob.blocks, e]) rfl
      have HZ : Hid (np1 ≤ 10000 ∧ nd1 ≤ 10000 ∧ np2 ≤ 10000 ∧ nd2 ≤ 10000) := Lib.hid (by
        have a1 := (h2.heap.obs (newOb h1' np1 nd1 ls1) (by simp)).size
        have a2 := (h2.heap.obs (newOb h2' np2 nd2 ls2) (by simp)).size
        have e1 : fieldsI ((cfR 40).W : Int) = 120 := by decide
        rw [e1] at a1 a2
        simp [Ob.f, newOb] at a1 a2
        omega)
      obtain ⟨o1, ho1e⟩ : ∃ o1, o1 = newOb h1' np1 nd1 ls1 := ⟨_, rfl⟩
      obtain ⟨o2, ho2e⟩ : ∃ o2, o2 = newOb h2' np2 nd2 ls2 := ⟨_, rfl⟩
      have q1 : h1' = o1.h ∧ np1 = o1.np ∧ nd1 = o1.nd := by rw [ho1e]; exact ⟨rfl, rfl, rfl⟩
      have q2 : h2' = o2.h ∧ np2 = o2.np ∧ nd2 = o2.nd := by rw [ho2e]; exact ⟨rfl, rfl, rfl⟩
      rw [← ho1e, ← ho2e] at HSm
      obtain ⟨os, hos⟩ : ∃ os, os = [] ++ [o1] ++ [o2] := ⟨_, rfl⟩
      rw [← hos] at HSm
      have hos1 : o1 ∈ os := by rw [hos]; simp
      have hos2 : o2 ∈ os := by rw [hos]; simp
      obtain ⟨rfl, rfl, rfl⟩ := q1
      obtain ⟨rfl, rfl, rfl⟩ := q2
      have hne : o1.h ≠ o2.h := hdis
      have hne' : o2.h ≠ o1.h := fun e => hdis e.symm
      have ho1 := HSm.out.heap.obAt hos1
      have ho2 := HSm.out.heap.obAt hos2
      obtain ⟨n1, m1', n2, m2'⟩ := HZ.out
      have m1 : o1.nd ≤ maxLen := by unfold maxLen; omega
      have m2 : o2.nd ≤ maxLen := by unfold maxLen; omega
      clear h2 hMd2 hlen2 hpool2 ho1e ho2e hos hdis
      go_wp2_with fail
      refine (HSm.out.look (O.see_yes _ _ _ _ o1 HSm.out.wz HSm.out.heap hos1)).mono ?_
      rintro e v1 ⟨a11, c11, a12, c12, rfl, r1, r2, f1, f2, f12, hb, g1, g2⟩
      have HV1 := Lib.hid (Seen.mk' (c1 := c11) (c2 := c12) r1 r2 f1 f2 f12 hb g1 g2)
      have HS1 := Lib.hid ((HSm.out.later hb).later (below_new _ (.cells #[.slice a11 (o1).np c11, .slice a12 (o1).nd c12] 37)))
      have HI1 := Lib.hid hb.size
      clear hb
      clear r1 r2 f1 f2 f12 g1 g2
      go_wp2_with fail
      refine (HS1.out.look (O.see_yes _ _ _ _ o2 HS1.out.wz HS1.out.heap hos2)).mono ?_
      rintro e v2 ⟨a21, c21, a22, c22, rfl, r1, r2, f1, f2, f12, hb, g1, g2⟩
      have HV2 := Lib.hid (Seen.mk' (c1 := c21) (c2 := c22) r1 r2 f1 f2 f12 hb g1 g2)
      have HS2 := Lib.hid ((HS1.out.later hb).later (below_new _ (.cells #[.slice a21 (o2).np c21, .slice a22 (o2).nd c22] 37)))
      have HI2 := Lib.hid hb.size
      have HV1_2 := Lib.hid (((HV1.out).later hb).later (below_new _ (.cells #[.slice a21 (o2).np c21, .slice a22 (o2).nd c22] 37)))
      clear hb
      clear r1 r2 f1 f2 f12 g1 g2
      have HNG : Hid (∀ i, w3.heap.size ≤ i → ¬ ofG p i) := Lib.hid (fun i hi => HSm.out.notG hi)
      have HNG2 : Hid (∀ i, v1.heap.size + 1 ≤ i → ¬ ofG p i) := Lib.hid (fun i hi => HSm.out.notG (by have := HI1.out; omega))
      have HLO : Hid (w0.heap.size ≤ w3.heap.size) := Lib.hid HSm.out.below.size
      have HLO2 : Hid (w0.heap.size ≤ v1.heap.size + 1) := Lib.hid (by have := HSm.out.below.size; have := HI1.out; omega)
      have HV2_ := HV2
      simp only [World.size_alloc] at HV2_
      by_cases he1 : dataE (cfR 40) os ((o1.h : Int) + 1) i = 0
      · obtain ⟨k1, rfl, hk1, a1', hf1⟩ := dataE_ok ho1 he1
        have hS1 := (HS2.out.heap).setField HM.out HS2.out.wz.len hos1 (i := o1.np + k1) (by unfold Ob.f; omega) hf1 v
        have hA1 := O.setdata_yes _ _ _ _ o1 k1 a1' v HS2.out.wz HS2.out.heap hos1 hk1 hf1 hv0 hv1
        have hl1 := lists_data hS1.2 hos1 hk1
        have hl2 := lists_other hS1.2 hos2 hne'
        have hdv : dataV (cfR 40) (zs2.set a1' v) os ((o1.h : Int) + 1) (k1 : Int) = v := by
          unfold dataV
          rw [ho1]
          show (if bel (k1 : Int) o1.nd then fldV (cfR 40) _ o1 (o1.np + k1) else 0) = _
          rw [bel_mk hk1, if_pos rfl, hS1.2 o1 _ hos1 (by unfold Ob.f; omega), if_pos ⟨rfl, rfl⟩]
        have hV2 := HV2_.out
        rw [← hl2.1, ← hl2.2] at hV2
        have HSA := Lib.hid hS1.1
        have HAA := Lib.hid hA1
        have HL1 := Lib.hid hl1
        have HDV := Lib.hid hdv
        have HE1 := Lib.hid he1
        have HV2z := Lib.hid hV2
        clear hS1 hA1 hl1 hl2 hdv he1 hV2 hf1
        go_wp2_with fail
        refine (HS2.out.act HAA.out HSA.out).mono ?_
        rintro e u1 ⟨rfl, h3, hT3⟩
        have HS3 := Lib.hid h3
        have hV1y := HV1_2.out.touch hT3 (fun i hi hi' hx => HNG.out i hi (Or.inr hx))
        have HV2y := Lib.hid (HV2z.out.touch hT3 (fun i hi hi' hx => HNG2.out i hi (Or.inr hx)))
        clear h3 hT3
        obtain ⟨bq, rfl, hbq, hcq, hfq⟩ := hV1y.r2.at (i := k1) (by rw [hV1y.l2]; exact hk1)
        have y11 := hV1y.box.cell 1 rfl
        have hlo := hV1y.h2 bq 0 rfl
        have HV1x := Lib.hid (hV1y.set2 (i := k1) (by rw [hV1y.l2]; exact hk1) v)
        have HS4 := Lib.hid (HS3.out.write (i := k1) (fun hx => HNG.out bq hlo.1 hx) (Nat.le_trans HLO.out hlo.1) (.int .u32 v))
        have HV2x := Lib.hid (HV2y.out.touch ((Touch.refl (fun i => i = bq) u1).setCell (p := ⟨bq, k1, none⟩) (fun _ => rfl) (.int .u32 v)) (fun i hi hi' e => by have e' : i = bq := e; omega))
        rw [← HL1.out.1, ← HL1.out.2] at HV1x
        clear hV1y
        go_wp2_with fail
        generalize hu4 : u1.setCell _ _ = u2 at *
        clear hu4 hcq hfq y11 hlo hbq
        have HA3 := Lib.hid (O.data _ _ _ os ((o1.h : Int) + 1) (k1 : Int) HS4.out.wz HS4.out.heap (HS4.out.heap.in64 HS4.out.wz.may hos1))
        rw [HDV.out, HE1.out] at HA3
        refine (HS4.out.act HA3.out HS4.out.heap).mono ?_
        rintro e u3' ⟨rfl, h5, hT5⟩
        have HSd := Lib.hid h5
        have HV1d := Lib.hid (HV1x.out.touch hT5 (fun i hi hi' hx => HNG.out i hi (Or.inr hx)))
        have HV2d := Lib.hid (HV2x.out.touch hT5 (fun i hi hi' hx => HNG2.out i hi (Or.inr hx)))
        clear h5 hT5
        by_cases he2 : ptrE (cfR 40) os ((o2.h : Int) + 1) j = 0
        · obtain ⟨k2, rfl, hk2, a2', hf2⟩ := ptrE_ok ho2 he2
          have hS2 := (HSd.out.heap).setField HM.out HSd.out.wz.len hos2 (i := k2) (by unfold Ob.f; omega) hf2 ((o1.h : Int) + 1)
          have hA2 := O.setptr_yes _ _ _ _ o2 k2 a2' ((o1.h : Int) + 1) HSd.out.wz HSd.out.heap hos2 hk2 hf2 (by omega) (by have := (HSd.out.heap).lt hos1 (b := o1.h) (by unfold Ob.blocks; simp); omega)
          have hl2 := lists_ptr hS2.2 hos2 hk2
          have hl1 := lists_other hS2.2 hos1 hne
          have hpv : ptrV (cfR 40) ((zs2.set a1' v).set a2' ((o1.h : Int) + 1)) os ((o2.h : Int) + 1) (k2 : Int) = (o1.h : Int) + 1 := by
            unfold ptrV
            rw [ho2]
            show (if bel (k2 : Int) o2.np then fldV (cfR 40) _ o2 k2 else 0) = _
            rw [bel_mk hk2, if_pos rfl, hS2.2 o2 k2 hos2 (by unfold Ob.f; omega), if_pos ⟨rfl, rfl⟩]
          have hV1 := HV1d.out
          have hV2 := HV2d.out
          rw [← hl1.1, ← hl1.2] at hV1
          have HSA := Lib.hid hS2.1
          have HAA := Lib.hid hA2
          have HL2 := Lib.hid hl2
          have HPV := Lib.hid hpv
          have HE2 := Lib.hid he2
          have HV1z := Lib.hid hV1
          have HV2z := Lib.hid hV2
          clear hS2 hA2 hl2 hl1 hpv he2 hV1 hV2 hf2
          go_wp2_with fail
          refine (HSd.out.act HAA.out HSA.out).mono ?_
          rintro e u3 ⟨rfl, h3, hT3⟩
          have HS3 := Lib.hid h3
          have HV1y := Lib.hid (HV1z.out.touch hT3 (fun i hi hi' hx => HNG.out i hi (Or.inr hx)))
          have hV2y := HV2z.out.touch hT3 (fun i hi hi' hx => HNG2.out i hi (Or.inr hx))
          clear h3 hT3
          obtain ⟨bq, rfl, hbq, hcq, hfq⟩ := hV2y.r1.at (i := k2) (by rw [hV2y.l1]; exact hk2)
          have y20 := hV2y.box.cell 0 rfl
          have hlo := hV2y.h1 bq 0 rfl
          have HV2x := Lib.hid (hV2y.set1 (i := k2) (by rw [hV2y.l1]; exact hk2) ((o1.h : Int) + 1))
          have HS4 := Lib.hid (HS3.out.write (i := k2) (fun hx => HNG2.out bq hlo.1 hx) (Nat.le_trans HLO2.out hlo.1) (.int .i64 ((o1.h : Int) + 1)))
          have HV1x := Lib.hid (HV1y.out.touch ((Touch.refl (fun i => i = bq) u3).setCell (p := ⟨bq, k2, none⟩) (fun _ => rfl) (.int .i64 ((o1.h : Int) + 1))) (fun i hi hi' e => by have e' : i = bq := e; omega))
          rw [← HL2.out.1, ← HL2.out.2] at HV2x
          clear hV2y
          go_wp2_with fail
          generalize hu4 : u3.setCell _ _ = u4 at *
          clear hu4 hcq hfq y20 hlo hbq
          have HA3 := Lib.hid (O.ptr _ _ _ os ((o2.h : Int) + 1) (k2 : Int) HS4.out.wz HS4.out.heap (HS4.out.heap.in64 HS4.out.wz.may hos2))
          rw [HPV.out, HE2.out] at HA3
          refine (HS4.out.act HA3.out HS4.out.heap).mono ?_
          rintro e u5 ⟨rfl, h5, hT5⟩
          have HS5' := Lib.hid h5
          have HV1w := Lib.hid (HV1x.out.touch hT5 (fun i hi hi' hx => HNG.out i hi (Or.inr hx)))
          have HV2w := Lib.hid (HV2x.out.touch hT5 (fun i hi hi' hx => HNG2.out i hi (Or.inr hx)))
          clear h5 hT5
          go_wp2_with fail
          refine (HS5'.out.look (O.see_yes _ _ _ _ o1 HS5'.out.wz HS5'.out.heap hos1)).mono ?_
          rintro e v5 ⟨a51, c51, a52, c52, rfl, r1, r2, f1, f2, f12, hb, g1, g2⟩
          have HV5 := Lib.hid (Seen.mk' (c1 := c51) (c2 := c52) r1 r2 f1 f2 f12 hb g1 g2)
          have HS5 := Lib.hid ((HS5'.out.later hb).later (below_new _ (.cells #[.slice a51 (o1).np c51, .slice a52 (o1).nd c52] 37)))
          have HI5 := Lib.hid hb.size
          have HV1w_5 := Lib.hid (((HV1w.out).later hb).later (below_new _ (.cells #[.slice a51 (o1).np c51, .slice a52 (o1).nd c52] 37)))
          have HV2w_5 := Lib.hid (((HV2w.out).later hb).later (below_new _ (.cells #[.slice a51 (o1).np c51, .slice a52 (o1).nd c52] 37)))
          clear hb
          clear r1 r2 f1 f2 f12 g1 g2
          go_wp2_with fail
          refine (HS5.out.look (O.see_yes _ _ _ _ o2 HS5.out.wz HS5.out.heap hos2)).mono ?_
          rintro e v6 ⟨a61, c61, a62, c62, rfl, r1, r2, f1, f2, f12, hb, g1, g2⟩
          have HV6 := Lib.hid (Seen.mk' (c1 := c61) (c2 := c62) r1 r2 f1 f2 f12 hb g1 g2)
          have HS6 := Lib.hid ((HS5.out.later hb).later (below_new _ (.cells #[.slice a61 (o2).np c61, .slice a62 (o2).nd c62] 37)))
          have HI6 := Lib.hid hb.size
          have HV1w_5_6 := Lib.hid (((HV1w_5.out).later hb).later (below_new _ (.cells #[.slice a61 (o2).np c61, .slice a62 (o2).nd c62] 37)))
          have HV2w_5_6 := Lib.hid (((HV2w_5.out).later hb).later (below_new _ (.cells #[.slice a61 (o2).np c61, .slice a62 (o2).nd c62] 37)))
          have HV5_6 := Lib.hid (((HV5.out).later hb).later (below_new _ (.cells #[.slice a61 (o2).np c61, .slice a62 (o2).nd c62] 37)))
          clear hb
          clear r1 r2 f1 f2 f12 g1 g2
          have b1 := HV1w_5_6.out.box
          have b2 := HV2w_5_6.out.box
          have b5 := HV5_6.out.box
          have b6 := HV6.out.box
          have e10 := b1.cell 0 rfl
          have e20 := b2.cell 0 rfl
          clear b1 b2 b5 b6 e10 e20
          go_wp2_with fail
          refine (begun11_any F O _).mono ?_
          rintro e v7 ⟨rfl, hb⟩
          have W1 := Lib.hid (HV1w_5_6.out.later hb)
          have W2 := Lib.hid (HV2w_5_6.out.later hb)
          have W5 := Lib.hid (HV5_6.out.later hb)
          have W6 := Lib.hid (HV6.out.later hb)
          have HB7 := Lib.hid (below_step HS6.out.below hb)
          clear hb
          have x10 := W1.out.box.cell 0 rfl
          have x50 := W5.out.box.cell 0 rfl
          go_wp2_with fail
          refine (ints_n _ _ _ _ _ _ (ptrL_length _ _ _) W5.out.r1.row W1.out.r1.row n1).mono ?_
          rintro e v8 ⟨rfl, hd⟩
          have W1a := Lib.hid (W1.out.drw hd)
          have W2a := Lib.hid (W2.out.drw hd)
          have W5a := Lib.hid (W5.out.drw hd)
          have W6a := Lib.hid (W6.out.drw hd)
          have HB8 := Lib.hid (below_step HB7.out hd.new)
          clear hd x10 x50
          have x11 := W1a.out.box.cell 1 rfl
          have x51 := W5a.out.box.cell 1 rfl
          go_wp2_with fail
          refine (same_yes _ _ _ _ _ _ _ (dataL_length _ _ _) W5a.out.r2.row W1a.out.r2.row m1).mono ?_
          rintro e v9 ⟨rfl, hd⟩
          have W2b := Lib.hid (W2a.out.drw hd)
          have W6b := Lib.hid (W6a.out.drw hd)
          have HB9 := Lib.hid (below_step HB8.out hd.new)
          clear hd x11 x51
          have x20 := W2b.out.box.cell 0 rfl
          have x60 := W6b.out.box.cell 0 rfl
          go_wp2_with fail
          refine (ints_n _ _ _ _ _ _ (ptrL_length _ _ _) W6b.out.r1.row W2b.out.r1.row n2).mono ?_
          rintro e v10 ⟨rfl, hd⟩
          have W2c := Lib.hid (W2b.out.drw hd)
          have W6c := Lib.hid (W6b.out.drw hd)
          have HB10 := Lib.hid (below_step HB9.out hd.new)
          clear hd x20 x60
          have x21 := W2c.out.box.cell 1 rfl
          have x61 := W6c.out.box.cell 1 rfl
          go_wp2_with fail
          refine (same_yes _ _ _ _ _ _ _ (dataL_length _ _ _) W6c.out.r2.row W2c.out.r2.row m2).mono ?_
          rintro e v11 ⟨rfl, hd⟩
          have HB11 := Lib.hid (below_step HB10.out hd.new)
          clear hd x21 x61
          go_wp2_with fail
          go_ret
          exact ⟨rfl, below_step HB0.out HB11.out⟩
        · have HA3 := Lib.hid (O.setptr_no _ _ _ os ((o2.h : Int) + 1) j ((o1.h : Int) + 1) HSd.out.wz HSd.out.heap ((HSd.out.heap).in64 HSd.out.wz.may hos2) he2)
          have hne2 : (ptrE (cfR 40) os ((o2.h : Int) + 1) j == 0) = false := by rw [beq_eq_false_iff_ne]; exact he2
          clear he2
          generalize ptrE (cfR 40) os ((o2.h : Int) + 1) j = E2 at *
          go_wp2_with fail
          refine (HSd.out.act HA3.out HSd.out.heap).mono ?_
          rintro e u5 ⟨rfl, h5, hT5⟩
          have HS5' := Lib.hid h5
          have HV1w := Lib.hid (HV1d.out.touch hT5 (fun i hi hi' hx => HNG.out i hi (Or.inr hx)))
          have HV2w := Lib.hid (HV2d.out.touch hT5 (fun i hi hi' hx => HNG2.out i hi (Or.inr hx)))
          clear h5 hT5
          go_wp2_with fail
          refine (HS5'.out.look (O.see_yes _ _ _ _ o1 HS5'.out.wz HS5'.out.heap hos1)).mono ?_
          rintro e v5 ⟨a51, c51, a52, c52, rfl, r1, r2, f1, f2, f12, hb, g1, g2⟩
          have HV5 := Lib.hid (Seen.mk' (c1 := c51) (c2 := c52) r1 r2 f1 f2 f12 hb g1 g2)
          have HS5 := Lib.hid ((HS5'.out.later hb).later (below_new _ (.cells #[.slice a51 (o1).np c51, .slice a52 (o1).nd c52] 37)))
          have HI5 := Lib.hid hb.size
          have HV1w_5 := Lib.hid (((HV1w.out).later hb).later (below_new _ (.cells #[.slice a51 (o1).np c51, .slice a52 (o1).nd c52] 37)))
          have HV2w_5 := Lib.hid (((HV2w.out).later hb).later (below_new _ (.cells #[.slice a51 (o1).np c51, .slice a52 (o1).nd c52] 37)))
          clear hb
          clear r1 r2 f1 f2 f12 g1 g2
          go_wp2_with fail
          refine (HS5.out.look (O.see_yes _ _ _ _ o2 HS5.out.wz HS5.out.heap hos2)).mono ?_
          rintro e v6 ⟨a61, c61, a62, c62, rfl, r1, r2, f1, f2, f12, hb, g1, g2⟩
          have HV6 := Lib.hid (Seen.mk' (c1 := c61) (c2 := c62) r1 r2 f1 f2 f12 hb g1 g2)
          have HS6 := Lib.hid ((HS5.out.later hb).later (below_new _ (.cells #[.slice a61 (o2).np c61, .slice a62 (o2).nd c62] 37)))
          have HI6 := Lib.hid hb.size
          have HV1w_5_6 := Lib.hid (((HV1w_5.out).later hb).later (below_new _ (.cells #[.slice a61 (o2).np c61, .slice a62 (o2).nd c62] 37)))
          have HV2w_5_6 := Lib.hid (((HV2w_5.out).later hb).later (below_new _ (.cells #[.slice a61 (o2).np c61, .slice a62 (o2).nd c62] 37)))
          have HV5_6 := Lib.hid (((HV5.out).later hb).later (below_new _ (.cells #[.slice a61 (o2).np c61, .slice a62 (o2).nd c62] 37)))
          clear hb
          clear r1 r2 f1 f2 f12 g1 g2
          have b1 := HV1w_5_6.out.box
          have b2 := HV2w_5_6.out.box
          have b5 := HV5_6.out.box
          have b6 := HV6.out.box
          have e10 := b1.cell 0 rfl
          have e20 := b2.cell 0 rfl
          clear b1 b2 b5 b6 e10 e20
          go_wp2_with fail
          refine (begun11_any F O _).mono ?_
          rintro e v7 ⟨rfl, hb⟩
          have W1 := Lib.hid (HV1w_5_6.out.later hb)
          have W2 := Lib.hid (HV2w_5_6.out.later hb)
          have W5 := Lib.hid (HV5_6.out.later hb)
          have W6 := Lib.hid (HV6.out.later hb)
          have HB7 := Lib.hid (below_step HS6.out.below hb)
          clear hb
          have x10 := W1.out.box.cell 0 rfl
          have x50 := W5.out.box.cell 0 rfl
          go_wp2_with fail
          refine (ints_n _ _ _ _ _ _ (ptrL_length _ _ _) W5.out.r1.row W1.out.r1.row n1).mono ?_
          rintro e v8 ⟨rfl, hd⟩
          have W1a := Lib.hid (W1.out.drw hd)
          have W2a := Lib.hid (W2.out.drw hd)
          have W5a := Lib.hid (W5.out.drw hd)
          have W6a := Lib.hid (W6.out.drw hd)
          have HB8 := Lib.hid (below_step HB7.out hd.new)
          clear hd x10 x50
          have x11 := W1a.out.box.cell 1 rfl
          have x51 := W5a.out.box.cell 1 rfl
          go_wp2_with fail
          refine (same_yes _ _ _ _ _ _ _ (dataL_length _ _ _) W5a.out.r2.row W1a.out.r2.row m1).mono ?_
          rintro e v9 ⟨rfl, hd⟩
          have W2b := Lib.hid (W2a.out.drw hd)
          have W6b := Lib.hid (W6a.out.drw hd)
          have HB9 := Lib.hid (below_step HB8.out hd.new)
          clear hd x11 x51
          have x20 := W2b.out.box.cell 0 rfl
          have x60 := W6b.out.box.cell 0 rfl
          go_wp2_with fail
          refine (ints_n _ _ _ _ _ _ (ptrL_length _ _ _) W6b.out.r1.row W2b.out.r1.row n2).mono ?_
          rintro e v10 ⟨rfl, hd⟩
          have W2c := Lib.hid (W2b.out.drw hd)
          have W6c := Lib.hid (W6b.out.drw hd)
          have HB10 := Lib.hid (below_step HB9.out hd.new)
          clear hd x20 x60
          have x21 := W2c.out.box.cell 1 rfl
          have x61 := W6c.out.box.cell 1 rfl
          go_wp2_with fail
          refine (same_yes _ _ _ _ _ _ _ (dataL_length _ _ _) W6c.out.r2.row W2c.out.r2.row m2).mono ?_
          rintro e v11 ⟨rfl, hd⟩
          have HB11 := Lib.hid (below_step HB10.out hd.new)
          clear hd x21 x61
          go_wp2_with fail
          go_ret
          exact ⟨rfl, below_step HB0.out HB11.out⟩
      · have HA3 := Lib.hid (O.setdata_no _ _ _ os ((o1.h : Int) + 1) i v HS2.out.wz HS2.out.heap (HS2.out.heap.in64 HS2.out.wz.may hos1) he1)
        have hne1 : (dataE (cfR 40) os ((o1.h : Int) + 1) i == 0) = false := by rw [beq_eq_false_iff_ne]; exact he1
        clear he1
        generalize dataE (cfR 40) os ((o1.h : Int) + 1) i = E1 at *
        go_wp2_with fail
        refine (HS2.out.act HA3.out HS2.out.heap).mono ?_
        rintro e u3' ⟨rfl, h5, hT5⟩
        have HSd := Lib.hid h5
        have HV1d := Lib.hid (HV1_2.out.touch hT5 (fun i hi hi' hx => HNG.out i hi (Or.inr hx)))
        have HV2d := Lib.hid (HV2_.out.touch hT5 (fun i hi hi' hx => HNG2.out i hi (Or.inr hx)))
        clear h5 hT5
        by_cases he2 : ptrE (cfR 40) os ((o2.h : Int) + 1) j = 0
        · obtain ⟨k2, rfl, hk2, a2', hf2⟩ := ptrE_ok ho2 he2
          have hS2 := (HSd.out.heap).setField HM.out HSd.out.wz.len hos2 (i := k2) (by unfold Ob.f; omega) hf2 ((o1.h : Int) + 1)
          have hA2 := O.setptr_yes _ _ _ _ o2 k2 a2' ((o1.h : Int) + 1) HSd.out.wz HSd.out.heap hos2 hk2 hf2 (by omega) (by have := (HSd.out.heap).lt hos1 (b := o1.h) (by unfold Ob.blocks; simp); omega)
          have hl2 := lists_ptr hS2.2 hos2 hk2
          have hl1 := lists_other hS2.2 hos1 hne
          have hpv : ptrV (cfR 40) (zs2.set a2' ((o1.h : Int) + 1)) os ((o2.h : Int) + 1) (k2 : Int) = (o1.h : Int) + 1 := by
            unfold ptrV
            rw [ho2]
            show (if bel (k2 : Int) o2.np then fldV (cfR 40) _ o2 k2 else 0) = _
            rw [bel_mk hk2, if_pos rfl, hS2.2 o2 k2 hos2 (by unfold Ob.f; omega), if_pos ⟨rfl, rfl⟩]
          have hV1 := HV1d.out
          have hV2 := HV2d.out
          rw [← hl1.1, ← hl1.2] at hV1
          have HSA := Lib.hid hS2.1
          have HAA := Lib.hid hA2
          have HL2 := Lib.hid hl2
          have HPV := Lib.hid hpv
          have HE2 := Lib.hid he2
          have HV1z := Lib.hid hV1
          have HV2z := Lib.hid hV2
          clear hS2 hA2 hl2 hl1 hpv he2 hV1 hV2 hf2
          go_wp2_with fail
          refine (HSd.out.act HAA.out HSA.out).mono ?_
          rintro e u3 ⟨rfl, h3, hT3⟩
          have HS3 := Lib.hid h3
          have HV1y := Lib.hid (HV1z.out.touch hT3 (fun i hi hi' hx => HNG.out i hi (Or.inr hx)))
          have hV2y := HV2z.out.touch hT3 (fun i hi hi' hx => HNG2.out i hi (Or.inr hx))
          clear h3 hT3
          obtain ⟨bq, rfl, hbq, hcq, hfq⟩ := hV2y.r1.at (i := k2) (by rw [hV2y.l1]; exact hk2)
          have y20 := hV2y.box.cell 0 rfl
          have hlo := hV2y.h1 bq 0 rfl
          have HV2x := Lib.hid (hV2y.set1 (i := k2) (by rw [hV2y.l1]; exact hk2) ((o1.h : Int) + 1))
          have HS4 := Lib.hid (HS3.out.write (i := k2) (fun hx => HNG2.out bq hlo.1 hx) (Nat.le_trans HLO2.out hlo.1) (.int .i64 ((o1.h : Int) + 1)))
          have HV1x := Lib.hid (HV1y.out.touch ((Touch.refl (fun i => i = bq) u3).setCell (p := ⟨bq, k2, none⟩) (fun _ => rfl) (.int .i64 ((o1.h : Int) + 1))) (fun i hi hi' e => by have e' : i = bq := e; omega))
          rw [← HL2.out.1, ← HL2.out.2] at HV2x
          clear hV2y
          go_wp2_with fail
          generalize hu4 : u3.setCell _ _ = u4 at *
          clear hu4 hcq hfq y20 hlo hbq
          have HA3 := Lib.hid (O.ptr _ _ _ os ((o2.h : Int) + 1) (k2 : Int) HS4.out.wz HS4.out.heap (HS4.out.heap.in64 HS4.out.wz.may hos2))
          rw [HPV.out, HE2.out] at HA3
          refine (HS4.out.act HA3.out HS4.out.heap).mono ?_
          rintro e u5 ⟨rfl, h5, hT5⟩
          have HS5' := Lib.hid h5
          have HV1w := Lib.hid (HV1x.out.touch hT5 (fun i hi hi' hx => HNG.out i hi (Or.inr hx)))
          have HV2w := Lib.hid (HV2x.out.touch hT5 (fun i hi hi' hx => HNG2.out i hi (Or.inr hx)))
          clear h5 hT5
          go_wp2_with fail
          refine (HS5'.out.look (O.see_yes _ _ _ _ o1 HS5'.out.wz HS5'.out.heap hos1)).mono ?_
          rintro e v5 ⟨a51, c51, a52, c52, rfl, r1, r2, f1, f2, f12, hb, g1, g2⟩
          have HV5 := Lib.hid (Seen.mk' (c1 := c51) (c2 := c52) r1 r2 f1 f2 f12 hb g1 g2)
          have HS5 := Lib.hid ((HS5'.out.later hb).later (below_new _ (.cells #[.slice a51 (o1).np c51, .slice a52 (o1).nd c52] 37)))
          have HI5 := Lib.hid hb.size
          have HV1w_5 := Lib.hid (((HV1w.out).later hb).later (below_new _ (.cells #[.slice a51 (o1).np c51, .slice a52 (o1).nd c52] 37)))
          have HV2w_5 := Lib.hid (((HV2w.out).later hb).later (below_new _ (.cells #[.slice a51 (o1).np c51, .slice a52 (o1).nd c52] 37)))
          clear hb
          clear r1 r2 f1 f2 f12 g1 g2
          go_wp2_with fail
          refine (HS5.out.look (O.see_yes _ _ _ _ o2 HS5.out.wz HS5.out.heap hos2)).mono ?_
          rintro e v6 ⟨a61, c61, a62, c62, rfl, r1, r2, f1, f2, f12, hb, g1, g2⟩
          have HV6 := Lib.hid (Seen.mk' (c1 := c61) (c2 := c62) r1 r2 f1 f2 f12 hb g1 g2)
          have HS6 := Lib.hid ((HS5.out.later hb).later (below_new _ (.cells #[.slice a61 (o2).np c61, .slice a62 (o2).nd c62] 37)))
          have HI6 := Lib.hid hb.size
          have HV1w_5_6 := Lib.hid (((HV1w_5.out).later hb).later (below_new _ (.cells #[.slice a61 (o2).np c61, .slice a62 (o2).nd c62] 37)))
          have HV2w_5_6 := Lib.hid (((HV2w_5.out).later hb).later (below_new _ (.cells #[.slice a61 (o2).np c61, .slice a62 (o2).nd c62] 37)))
          have HV5_6 := Lib.hid (((HV5.out).later hb).later (below_new _ (.cells #[.slice a61 (o2).np c61, .slice a62 (o2).nd c62] 37)))
          clear hb
          clear r1 r2 f1 f2 f12 g1 g2
          have b1 := HV1w_5_6.out.box
          have b2 := HV2w_5_6.out.box
          have b5 := HV5_6.out.box
          have b6 := HV6.out.box
          have e10 := b1.cell 0 rfl
          have e20 := b2.cell 0 rfl
          clear b1 b2 b5 b6 e10 e20
          go_wp2_with fail
          refine (begun11_any F O _).mono ?_
          rintro e v7 ⟨rfl, hb⟩
          have W1 := Lib.hid (HV1w_5_6.out.later hb)
          have W2 := Lib.hid (HV2w_5_6.out.later hb)
          have W5 := Lib.hid (HV5_6.out.later hb)
          have W6 := Lib.hid (HV6.out.later hb)
          have HB7 := Lib.hid (below_step HS6.out.below hb)
          clear hb
          have x10 := W1.out.box.cell 0 rfl
          have x50 := W5.out.box.cell 0 rfl
          go_wp2_with fail
          refine (ints_n _ _ _ _ _ _ (ptrL_length _ _ _) W5.out.r1.row W1.out.r1.row n1).mono ?_
          rintro e v8 ⟨rfl, hd⟩
          have W1a := Lib.hid (W1.out.drw hd)
          have W2a := Lib.hid (W2.out.drw hd)
          have W5a := Lib.hid (W5.out.drw hd)
          have W6a := Lib.hid (W6.out.drw hd)
          have HB8 := Lib.hid (below_step HB7.out hd.new)
          clear hd x10 x50
          have x11 := W1a.out.box.cell 1 rfl
          have x51 := W5a.out.box.cell 1 rfl
          go_wp2_with fail
          refine (same_yes _ _ _ _ _ _ _ (dataL_length _ _ _) W5a.out.r2.row W1a.out.r2.row m1).mono ?_
          rintro e v9 ⟨rfl, hd⟩
          have W2b := Lib.hid (W2a.out.drw hd)
          have W6b := Lib.hid (W6a.out.drw hd)
          have HB9 := Lib.hid (below_step HB8.out hd.new)
          clear hd x11 x51
          have x20 := W2b.out.box.cell 0 rfl
          have x60 := W6b.out.box.cell 0 rfl
          go_wp2_with fail
          refine (ints_n _ _ _ _ _ _ (ptrL_length _ _ _) W6b.out.r1.row W2b.out.r1.row n2).mono ?_
          rintro e v10 ⟨rfl, hd⟩
          have W2c := Lib.hid (W2b.out.drw hd)
          have W6c := Lib.hid (W6b.out.drw hd)
          have HB10 := Lib.hid (below_step HB9.out hd.new)
          clear hd x20 x60
          have x21 := W2c.out.box.cell 1 rfl
          have x61 := W6c.out.box.cell 1 rfl
          go_wp2_with fail
          refine (same_yes _ _ _ _ _ _ _ (dataL_length _ _ _) W6c.out.r2.row W2c.out.r2.row m2).mono ?_
          rintro e v11 ⟨rfl, hd⟩
          have HB11 := Lib.hid (below_step HB10.out hd.new)
          clear hd x21 x61
          go_wp2_with fail
          go_ret
          exact ⟨rfl, below_step HB0.out HB11.out⟩
        · have HA3 := Lib.hid (O.setptr_no _ _ _ os ((o2.h : Int) + 1) j ((o1.h : Int) + 1) HSd.out.wz HSd.out.heap ((HSd.out.heap).in64 HSd.out.wz.may hos2) he2)
          have hne2 : (ptrE (cfR 40) os ((o2.h : Int) + 1) j == 0) = false := by rw [beq_eq_false_iff_ne]; exact he2
          clear he2
          generalize ptrE (cfR 40) os ((o2.h : Int) + 1) j = E2 at *
          go_wp2_with fail
          refine (HSd.out.act HA3.out HSd.out.heap).mono ?_
          rintro e u5 ⟨rfl, h5, hT5⟩
          have HS5' := Lib.hid h5
          have HV1w := Lib.hid (HV1d.out.touch hT5 (fun i hi hi' hx => HNG.out i hi (Or.inr hx)))
          have HV2w := Lib.hid (HV2d.out.touch hT5 (fun i hi hi' hx => HNG2.out i hi (Or.inr hx)))
          clear h5 hT5
          go_wp2_with fail
          refine (HS5'.out.look (O.see_yes _ _ _ _ o1 HS5'.out.wz HS5'.out.heap hos1)).mono ?_
          rintro e v5 ⟨a51, c51, a52, c52, rfl, r1, r2, f1, f2, f12, hb, g1, g2⟩
          have HV5 := Lib.hid (Seen.mk' (c1 := c51) (c2 := c52) r1 r2 f1 f2 f12 hb g1 g2)
          have HS5 := Lib.hid ((HS5'.out.later hb).later (below_new _ (.cells #[.slice a51 (o1).np c51, .slice a52 (o1).nd c52] 37)))
          have HI5 := Lib.hid hb.size
          have HV1w_5 := Lib.hid (((HV1w.out).later hb).later (below_new _ (.cells #[.slice a51 (o1).np c51, .slice a52 (o1).nd c52] 37)))
          have HV2w_5 := Lib.hid (((HV2w.out).later hb).later (below_new _ (.cells #[.slice a51 (o1).np c51, .slice a52 (o1).nd c52] 37)))
          clear hb
          clear r1 r2 f1 f2 f12 g1 g2
          go_wp2_with fail
          refine (HS5.out.look (O.see_yes _ _ _ _ o2 HS5.out.wz HS5.out.heap hos2)).mono ?_
          rintro e v6 ⟨a61, c61, a62, c62, rfl, r1, r2, f1, f2, f12, hb, g1, g2⟩
          have HV6 := Lib.hid (Seen.mk' (c1 := c61) (c2 := c62) r1 r2 f1 f2 f12 hb g1 g2)
          have HS6 := Lib.hid ((HS5.out.later hb).later (below_new _ (.cells #[.slice a61 (o2).np c61, .slice a62 (o2).nd c62] 37)))
          have HI6 := Lib.hid hb.size
          have HV1w_5_6 := Lib.hid (((HV1w_5.out).later hb).later (below_new _ (.cells #[.slice a61 (o2).np c61, .slice a62 (o2).nd c62] 37)))
          have HV2w_5_6 := Lib.hid (((HV2w_5.out).later hb).later (below_new _ (.cells #[.slice a61 (o2).np c61, .slice a62 (o2).nd c62] 37)))
          have HV5_6 := Lib.hid (((HV5.out).later hb).later (below_new _ (.cells #[.slice a61 (o2).np c61, .slice a62 (o2).nd c62] 37)))
          clear hb
          clear r1 r2 f1 f2 f12 g1 g2
          have b1 := HV1w_5_6.out.box
          have b2 := HV2w_5_6.out.box
          have b5 := HV5_6.out.box
          have b6 := HV6.out.box
          have e10 := b1.cell 0 rfl
          have e20 := b2.cell 0 rfl
          clear b1 b2 b5 b6 e10 e20
          go_wp2_with fail
          refine (begun11_any F O _).mono ?_
          rintro e v7 ⟨rfl, hb⟩
          have W1 := Lib.hid (HV1w_5_6.out.later hb)
          have W2 := Lib.hid (HV2w_5_6.out.later hb)
          have W5 := Lib.hid (HV5_6.out.later hb)
          have W6 := Lib.hid (HV6.out.later hb)
          have HB7 := Lib.hid (below_step HS6.out.below hb)
          clear hb
          have x10 := W1.out.box.cell 0 rfl
          have x50 := W5.out.box.cell 0 rfl
          go_wp2_with fail
          refine (ints_n _ _ _ _ _ _ (ptrL_length _ _ _) W5.out.r1.row W1.out.r1.row n1).mono ?_
          rintro e v8 ⟨rfl, hd⟩
          have W1a := Lib.hid (W1.out.drw hd)
          have W2a := Lib.hid (W2.out.drw hd)
          have W5a := Lib.hid (W5.out.drw hd)
          have W6a := Lib.hid (W6.out.drw hd)
          have HB8 := Lib.hid (below_step HB7.out hd.new)
          clear hd x10 x50
          have x11 := W1a.out.box.cell 1 rfl
          have x51 := W5a.out.box.cell 1 rfl
          go_wp2_with fail
          refine (same_yes _ _ _ _ _ _ _ (dataL_length _ _ _) W5a.out.r2.row W1a.out.r2.row m1).mono ?_
          rintro e v9 ⟨rfl, hd⟩
          have W2b := Lib.hid (W2a.out.drw hd)
          have W6b := Lib.hid (W6a.out.drw hd)
          have HB9 := Lib.hid (below_step HB8.out hd.new)
          clear hd x11 x51
          have x20 := W2b.out.box.cell 0 rfl
          have x60 := W6b.out.box.cell 0 rfl
          go_wp2_with fail
          refine (ints_n _ _ _ _ _ _ (ptrL_length _ _ _) W6b.out.r1.row W2b.out.r1.row n2).mono ?_
          rintro e v10 ⟨rfl, hd⟩
          have W2c := Lib.hid (W2b.out.drw hd)
          have W6c := Lib.hid (W6b.out.drw hd)
          have HB10 := Lib.hid (below_step HB9.out hd.new)
          clear hd x20 x60
          have x21 := W2c.out.box.cell 1 rfl
          have x61 := W6c.out.box.cell 1 rfl
          go_wp2_with fail
          refine (same_yes _ _ _ _ _ _ _ (dataL_length _ _ _) W6c.out.r2.row W2c.out.r2.row m2).mono ?_
          rintro e v11 ⟨rfl, hd⟩
          have HB11 := Lib.hid (below_step HB10.out hd.new)
          clear hd x21 x61
          go_wp2_with fail
          go_ret
          exact ⟨rfl, below_step HB0.out HB11.out⟩

end Go.Proofs.Ytobgndjejagppaa.Pk
