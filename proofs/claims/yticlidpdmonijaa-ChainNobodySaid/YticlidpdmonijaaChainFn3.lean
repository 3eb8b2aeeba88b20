/-
  What the functions of package chain return: Take, List; the bundle.
-/
import Derived.Test.YticlidpdmonijaaChainFn2
namespace Go.Proofs.Yticlidpdmonijaa.Pk
open Go.RowKit
set_option linter.unusedVariables false
set_option linter.unusedSimpArgs false

set_option maxHeartbeats 1000000 in
theorem chainTake_yes (p : Pl) (c : Cf) (s : St) (k b : Nat) (l : List Nat) (w : World) (hG : G w p c s) (hC : ChainAt c s.zs k (b :: l)) (hk : k < 2) :
    Calls Try.prog 14 #[.pointer (some ⟨p.a, 0, none⟩), .int .i64 (k : Int)] w (ChPost w p c s (takeZ c k b s.zs) (.tuple #[.int .i64 (b : Int), .bool true])) := by
  have HG := Lib.hid hG
  have hm := hG.may
  have hz := hG.len
  have hN := hm.n
  have hW := hm.w
  have hb := hC.lt b (by simp)
  have hlk := nodup_len hC.nd hC.lt
  have rl : nth s.zs (lnk c b) = fstI l := hC.ln.1
  have HL := Lib.hid rl
  obtain ⟨n, hnl⟩ : ∃ n : Nat, n = l.length := ⟨_, rfl⟩
  have r2 : nth s.zs (3 * k + 2) = (n : Int) + 1 := by rw [hnl]; rw [hC.r2]; simp
  have hnN : n + 1 ≤ c.N := by rw [hnl]; simpa using hlk
  have HR := Lib.hid (ch_regs p k w hk)
  have HR' := Lib.hid (fun w' => ch_regs p k w' hk)
  have HF := Lib.hid (ch_first p c s k b l w hG hC hk)
  obtain ⟨e0, e1, e2⟩ := regs_wraps hk
  have ew3 : IntKind.i64.wrap ((n : Int) + 1 - 1) = (n : Int) := by rw [Int.add_sub_cancel]; exact IntWalk.i64_in _ (by omega)
  have H5 : Hid (5 < c.W) := Lib.hid (by omega)
  cases l with
  | nil =>
    have rl0 : nth s.zs (lnk c b) = 0 := rl
    have HL0 := Lib.hid rl0
    have ew2 : IntKind.i64.wrap 0 = 0 := IntWalk.i64_in _ (by omega)
    have HE := Lib.hid (take_words0 hm hz hk hb rl0)
    rw [r2, Int.add_sub_cancel] at HE
    have R2 : Hid (nth (((s.zs.set (3 * k) 0).set (3 * k + 1) 0).set (lnk c b) 0) (3 * k + 2) = (n : Int) + 1) := Lib.hid (by
      rw [nth_set_ne (lnk_reg' (by omega)), nth_set_ne (by omega), nth_set_ne (by omega)]; exact r2)
    clear hG hC hz r2 hm rl rl0 HL hlk hnl
    go_enter Try.func14, Try.ntmps14
    have HT0 : Hid (Touch (inG p) w w) := Lib.hid (Touch.refl _ _)
    go_wp2_with fail
    refine (HF.out).mono ?_
    rintro e w1 ⟨rfl, hG, hT⟩
    have HG1 := Lib.hid hG
    have HT1 : Hid (Touch (inG p) _ w1) := Lib.hid (HT0.out.trans hT)
    clear hG hT
    go_wp2_with fail
    refine (HR'.out _).mono ?_
    rintro e w0 ⟨rfl, rfl⟩
    go_wp2_with fail
    refine (wordW p c s.got b 5 _ _ _ _ HG1.out hb H5.out rfl rfl HL0.out).mono ?_
    rintro e w2 ⟨rfl, hG, hT⟩
    have HG2 := Lib.hid hG
    have HT2 : Hid (Touch (inG p) _ w2) := Lib.hid (HT1.out.trans hT)
    clear hG hT
    go_wp2_with fail
    refine (setregR p c _ (3 * k) _ _ _ HG2.out (by omega) (by first | rfl | exact e0) (by omega) (by omega)).mono ?_
    rintro e w3 ⟨rfl, hG, hT⟩
    have HG3 := Lib.hid hG
    have HT3 : Hid (Touch (inG p) _ w3) := Lib.hid (HT2.out.trans hT)
    clear hG hT
    go_wp2_with fail
    refine (setregR p c _ (3 * k + 1) _ _ _ HG3.out (by omega) (by first | rfl | exact e1) (by omega) (by omega)).mono ?_
    rintro e w4 ⟨rfl, hG, hT⟩
    have HG4 := Lib.hid hG
    have HT4 : Hid (Touch (inG p) _ w4) := Lib.hid (HT3.out.trans hT)
    clear hG hT
    go_wp2_with fail
    refine (setwordW p c _ b 5 _ _ 0 _ HG4.out hb H5.out rfl rfl (by omega) (by omega)).mono ?_
    rintro e w5 ⟨rfl, hG, hT⟩
    have HG5 := Lib.hid hG
    have HT5 : Hid (Touch (inG p) _ w5) := Lib.hid (HT4.out.trans hT)
    clear hG hT
    go_wp2_with fail
    refine (regR p c _ (3 * k + 2) _ _ _ HG5.out (by omega) (by first | rfl | exact e2) R2.out).mono ?_
    rintro e w6 ⟨rfl, hG, hT⟩
    have HG6 := Lib.hid hG
    have HT6 : Hid (Touch (inG p) _ w6) := Lib.hid (HT5.out.trans hT)
    clear hG hT
    go_wp2_with fail
    refine (setregR p c _ (3 * k + 2) _ _ _ HG6.out (by omega) (by first | rfl | exact e2) (by omega) (by omega)).mono ?_
    rintro e w7 ⟨rfl, hG, hT⟩
    have HG7 := Lib.hid hG
    have HT7 : Hid (Touch (inG p) _ w7) := Lib.hid (HT6.out.trans hT)
    clear hG hT
    go_wp2_with fail
    go_ret2
    exact ⟨s.m + 7, rfl, HG7.out.to HE.out rfl, by omega, by omega, HT7.out⟩
  | cons a t =>
    have ha := hC.lt a (by simp)
    have rl1 : nth s.zs (lnk c b) = (a : Int) + 1 := rl
    have HL1 := Lib.hid rl1
    have hbn : ((a : Int) + 1 == 0) = false := bne_of' (by omega)
    have ew2 : IntKind.i64.wrap ((a : Int) + 1) = (a : Int) + 1 := IntWalk.i64_in _ (by omega)
    have HE := Lib.hid (take_words1 hm hz hk hb (by rw [rl1]; omega))
    rw [r2, rl1, Int.add_sub_cancel] at HE
    have R2 : Hid (nth ((s.zs.set (3 * k) ((a : Int) + 1)).set (lnk c b) 0) (3 * k + 2) = (n : Int) + 1) := Lib.hid (by
      rw [nth_set_ne (lnk_reg' (by omega)), nth_set_ne (by omega)]; exact r2)
    clear hG hC hz r2 hm rl rl1 HL hlk hnl
    go_enter Try.func14, Try.ntmps14
    have HT0 : Hid (Touch (inG p) w w) := Lib.hid (Touch.refl _ _)
    go_wp2_with fail
    refine (HF.out).mono ?_
    rintro e w1 ⟨rfl, hG, hT⟩
    have HG1 := Lib.hid hG
    have HT1 : Hid (Touch (inG p) _ w1) := Lib.hid (HT0.out.trans hT)
    clear hG hT
    go_wp2_with fail
    refine (HR'.out _).mono ?_
    rintro e w0 ⟨rfl, rfl⟩
    go_wp2_with fail
    refine (wordW p c s.got b 5 _ _ _ _ HG1.out hb H5.out rfl rfl HL1.out).mono ?_
    rintro e w2 ⟨rfl, hG, hT⟩
    have HG2 := Lib.hid hG
    have HT2 : Hid (Touch (inG p) _ w2) := Lib.hid (HT1.out.trans hT)
    clear hG hT
    go_wp2_with fail
    refine (setregR p c _ (3 * k) _ _ _ HG2.out (by omega) (by first | rfl | exact e0) (by omega) (by omega)).mono ?_
    rintro e w3 ⟨rfl, hG, hT⟩
    have HG3 := Lib.hid hG
    have HT3 : Hid (Touch (inG p) _ w3) := Lib.hid (HT2.out.trans hT)
    clear hG hT
    go_wp2_with fail
    refine (setwordW p c _ b 5 _ _ 0 _ HG3.out hb H5.out rfl rfl (by omega) (by omega)).mono ?_
    rintro e w4 ⟨rfl, hG, hT⟩
    have HG4 := Lib.hid hG
    have HT4 : Hid (Touch (inG p) _ w4) := Lib.hid (HT3.out.trans hT)
    clear hG hT
    go_wp2_with fail
    refine (regR p c _ (3 * k + 2) _ _ _ HG4.out (by omega) (by first | rfl | exact e2) R2.out).mono ?_
    rintro e w5 ⟨rfl, hG, hT⟩
    have HG5 := Lib.hid hG
    have HT5 : Hid (Touch (inG p) _ w5) := Lib.hid (HT4.out.trans hT)
    clear hG hT
    go_wp2_with fail
    refine (setregR p c _ (3 * k + 2) _ _ _ HG5.out (by omega) (by first | rfl | exact e2) (by omega) (by omega)).mono ?_
    rintro e w6 ⟨rfl, hG, hT⟩
    have HG6 := Lib.hid hG
    have HT6 : Hid (Touch (inG p) _ w6) := Lib.hid (HT5.out.trans hT)
    clear hG hT
    go_wp2_with fail
    go_ret2
    exact ⟨s.m + 6, rfl, HG6.out.to HE.out rfl, by omega, by omega, HT6.out⟩

theorem chainTake_no (p : Pl) (c : Cf) (s : St) (k : Int) (w : World) (hG : G w p c s) (h : NoTake c s.zs k) :
    Calls Try.prog 14 #[.pointer (some ⟨p.a, 0, none⟩), .int .i64 k] w (ChPost w p c s s.zs (.tuple #[.int .i64 0, .bool false])) := by
  have H := Lib.hid (ch_first_no p c s k w hG h)
  clear hG h
  go_enter Try.func14, Try.ntmps14
  go_wp2_with fail
  refine H.out.mono ?_
  rintro e w1 ⟨m, rfl, h2, h3, h4, h5⟩
  have H2 := Lib.hid h2
  have H5 := Lib.hid h5
  clear h2 h5
  go_wp2_with fail
  go_ret2
  exact ⟨m, rfl, H2.out, h3, h4, H5.out⟩

theorem own_later {w w' : World} {base : Nat} {e : TypeId} {size : Nat} {v : Value} {n : Nat} {xs : List Value} (h : w.ownsRow base e size v n xs) (hb : Below w.heap.size w w') : w'.ownsRow base e size v n xs := by
  refine ⟨h.1, ?_⟩
  rcases h.2 with hn | ⟨g, cap, cur, rfl, hbg, hgg, rest⟩
  · exact .inl hn
  · exact .inr ⟨g, cap, cur, rfl, hbg, (hb.block g (lt_of_block hgg)).trans hgg, rest⟩
theorem Gath.later {w wr w' : World} {v : Value} {k : Nat} {zs : List Int} (h : Gath w v k zs wr) (hb : Below wr.heap.size wr w') : Gath w v k zs w' := ⟨own_later h.1 hb, below_step h.2 hb⟩
theorem Gath.size {w wr : World} {v : Value} {k : Nat} {zs : List Int} (h : Gath w v k zs wr) : w.heap.size ≤ wr.heap.size := h.2.size

/-- The name at a place of a row. -/
def nmI (l : List Nat) (k : Nat) : Int := fstI (l.drop k)
theorem nmI_at {l : List Nat} {k : Nat} (h : k < l.length) : nmI l k = (l[k] : Int) + 1 := by
  unfold nmI; rw [List.drop_eq_getElem_cons h]; rfl
theorem nmI_end {l : List Nat} {k : Nat} (h : l.length ≤ k) : nmI l k = 0 := by
  unfold nmI; rw [List.drop_eq_nil_of_le h]; rfl
theorem nmI_next {c : Cf} {zs : List Int} : ∀ {l : List Nat}, Links c zs l → ∀ k, (h : k < l.length) → nth zs (lnk c l[k]) = nmI l (k + 1)
  | [], _, k, h => absurd h (by simp)
  | b :: t, hl, 0, _ => hl.1
  | b :: t, hl, k + 1, h => nmI_next hl.2 k (by simpa using h)
theorem ints_take_snoc {l : List Nat} {k : Nat} (hk : k < l.length) : (ints l).take (k + 1) = (ints l).take k ++ [(l[k] : Int)] := by
  have := take_snoc (zs := ints l) (k := k) (by rw [ints_length]; exact hk)
  rw [this, ints_nth hk]

set_option maxHeartbeats 2000000 in
theorem chainList_yes (p : Pl) (c : Cf) (s : St) (k : Nat) (l : List Nat) (w : World) (hG : G w p c s) (hC : ChainAt c s.zs k l) (hk : k < 2) :
    Calls Try.prog 16 #[.pointer (some ⟨p.a, 0, none⟩), .int .i64 (k : Int)] w (NewInts w l) := by
  obtain ⟨i0, hi, hz0, hz1, hz2⟩ := info_parts infoInt
  have HG := Lib.hid hG
  have hm := hG.may
  have hN := hm.n
  have hlk := nodup_len hC.nd hC.lt
  have HR := Lib.hid (ch_regs p k w hk)
  obtain ⟨e0, e1, e2⟩ := regs_wraps hk
  have hW := hm.w
  have H5 : Hid (5 < c.W) := Lib.hid (by omega)
  have HC := Lib.hid hC
  have HNx := Lib.hid (nmI_next hC.ln)
  have hfd := cfield0 (c.N : Int) (c.W : Int) (c.R : Int) (c.K : Int)
  have H0 : Hid (nth s.zs (3 * k) = nmI l 0) := Lib.hid hC.r0
  clear hG hC hm
  go_enter Try.func16, Try.ntmps16
  have HT0 : Hid (Below w.heap.size w w) := Lib.hid (Below.refl _ _)
  go_wp2_with fail
  refine (HR.out).mono ?_
  rintro e w0 ⟨rfl, rfl⟩
  go_wp2_with fail
  refine (seeregR p c s (3 * k) _ _ _ HG.out (by omega) (by first | rfl | exact e0) H0.out).mono ?_
  rintro e w0 ⟨rfl, rfl⟩
  go_wp2_with fail
  refine (gconfC p c s _ HG.out).mono ?_
  rintro e w1 ⟨rfl, hb⟩
  have HG1 := Lib.hid (HG.out.later hb)
  have HT1 : Hid (Below w.heap.size w w1) := Lib.hid (below_step HT0.out hb)
  clear hb
  go_wp2_with fail
  go_loopw [7, 8, 26] (fun v nm i wr => ∃ j : Nat, j ≤ l.length ∧ i = .int .i64 j ∧ nm = .int .i64 (nmI l j) ∧ Gath w v j ((ints l).take j) wr) (fun _ _ i _ => c.N - (intOf i).toNat)
  case atStart =>
    refine ⟨0, Nat.zero_le _, rfl, rfl, ?_, HT1.out⟩
    exact World.ownsRow_nil _ _ _ _
  case round =>
    obtain ⟨j, hj, rfl, rfl, hga⟩ := hrel
    have HGa := Lib.hid hga
    have HG0 := HG
    have HGr : Hid (G wr p c s) := Lib.hid (HG0.out.later hga.2)
    clear hga
    by_cases hlt : j < l.length
    · have hjN : j < c.N := by omega
      have hb : l[j] < c.N := HC.out.lt _ (List.getElem_mem hlt)
      have HTk := Lib.hid (ints_take_snoc hlt)
      have HNm := Lib.hid (nmI_at hlt)
      have HN1 := Lib.hid (HNx.out j hlt)
      have hwf := HG0.out.wf (lnk c l[j])
      rw [HN1.out] at hwf
      generalize l[j] = b at *
      have i1 : IntKind.i64.wrap (nmI l (j + 1)) = nmI l (j + 1) := IntWalk.i64_in _ (by omega)
      go_wp2_with fail
      refine (ch_named p c s b _ _ HGr.out hb HNm.out).mono ?_
      rintro e w3 ⟨rfl, hb3⟩
      have HG3 := Lib.hid (HGr.out.later hb3)
      have HGa3 := Lib.hid (HGa.out.later hb3)
      have hown := HGa3.out.1
      have hsz := HGa3.out.2.size
      clear hb3
      go_wp2_with (at_builtin; refine wpList_append_own _ rfl _ _ 32 rfl w.heap.size 3 i0 (.int .i64 0) 1 8 Try.underlying32 hi hz0 hz1 hz2 rfl (by decide) _ _ _ rfl (hown.alloc _) ⟨w3.heap.size, 0, none⟩ 1 1 [.int .i64 (b : Int)] rfl rfl ?c1 ?c2 ?c3 ?c4 ?c5 ?c6)
      case c1 => exact cell_one_new w3 _ _
      case c2 => intro u hu; simp at hu; subst hu; rfl
      case c3 => unfold maxLen; omega
      case c4 => omega
      case c5 => simp; omega
      case c6 =>
        intro v' w4 hown' hgrow _
        have hbel1 : Below w.heap.size w w4 := (HGa3.out.2.alloc hsz _).grown hgrow (by simp; omega) (owns_block hown)
        have HG4 : Hid (Gath w v' (j + 1) ((ints l).take (j + 1)) w4) := Lib.hid (by
          refine ⟨?_, hbel1⟩
          rw [HTk.out]
          simpa using hown')
        have HGr4 : Hid (G w4 p c s) := Lib.hid (HG0.out.later hbel1)
        clear hown' hgrow hbel1 hown hsz
        go_wp2_with fail
        refine (seewordW p c s b 5 _ _ _ _ HGr4.out hb H5.out rfl rfl HN1.out).mono ?_
        rintro e w5 ⟨rfl, hd⟩
        have HG5 := Lib.hid (HG4.out.later hd.new)
        clear hd
        go_wp2_with fail
        go_roundw
        case rel => exact ⟨j + 1, by omega, by go_num, rfl, HG5.out⟩
        case measure => simp [intOf]; omega
    · have he : j = l.length := by omega
      have HNm : Hid (nmI l j = 0) := Lib.hid (nmI_end (by omega))
      rw [HNm.out]
      have HO : Hid (∀ w', Below wr.heap.size wr w' → NewInts w l (.returned u7) w') := Lib.hid (by
        intro w' hb
        have h1 := HGa.out.later hb
        rw [he, ← ints_length l, List.take_length] at h1
        exact (NewRow.mk rfl h1).ints rfl)
      clear he
      by_cases hjN : j < c.N
      · go_wp2_with fail
        refine (ch_named0 p c s _ HGr.out).mono ?_
        rintro e w3 ⟨rfl, hb3⟩
        have HO3 := Lib.hid (HO.out _ hb3)
        clear hb3
        go_wp2_with fail
        go_ret
        exact HO3.out
      · have HO3 := Lib.hid (HO.out _ (Below.refl _ _))
        go_wp2_with fail
        go_ret
        exact HO3.out
theorem chainList_no (p : Pl) (c : Cf) (s : St) (k : Int) (w : World) (hG : G w p c s) (h : ¬ (k = 0 ∨ k = 1)) :
    Calls Try.prog 16 #[.pointer (some ⟨p.a, 0, none⟩), .int .i64 k] w (NewInts w []) := by
  clear hG
  go_enter Try.func16, Try.ntmps16
  go_wp2_with fail
  refine (ch_regs_no p k _ h).mono ?_
  rintro e w1 ⟨rfl, rfl⟩
  go_wp2_with fail
  go_ret
  exact ⟨none, 0, rfl, Row.nil _ _ _, (fun b off h => by cases h), Below.refl _ _⟩

theorem chainFns : ChainFns where
  push_yes := chainPush_yes
  add_yes := chainAdd_yes
  push_no := chainPush_no
  add_no := chainAdd_no
  take_yes := chainTake_yes
  take_no := chainTake_no
  first_yes := fun p c s k b l w hG hC hk => (ch_first p c s k b l w hG hC hk).mono (fun e w' h => ⟨s.m + 1, h.1, h.2.1.to rfl rfl, by omega, by omega, h.2.2⟩)
  first_no := ch_first_no
  len_yes := ch_len
  len_no := ch_len_no
  list_yes := chainList_yes
  list_no := chainList_no

end Go.Proofs.Yticlidpdmonijaa.Pk
